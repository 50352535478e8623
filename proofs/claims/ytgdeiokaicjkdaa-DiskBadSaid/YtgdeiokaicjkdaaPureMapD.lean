/-
  Disks: what is pending as a map of sectors by number, each a value of 64 bytes; what stands as one row of bytes. No program is imported.
-/
import Derived.Test.YtgdeiokaicjkdaaPureAll2
import Derived.Test.YtgdeiokaicjkdaaPureDisk2
import Derived.Maps.RangeWalk
import Derived.Lib.SlKeysI
import Derived.Deep.MidRow
set_option linter.unusedVariables false
set_option linter.unusedSimpArgs false
namespace Go.Pantry
open Go.RowKit

/-- a sector, as a value -/
def secV (s : List UInt8) : Value := .agg (s.map byteV).toArray
/-- how a map's element reads: as what it is -/
def secElem (v : Value) : Option (DataW Value × List MemPlace) := some (.held v, [])
abbrev keyD (k : Nat) : Lit := .int .i64 (k : Int)
theorem keyD_inj {a b : Nat} (h : keyD a = keyD b) : a = b := by
  simp only [Lit.int.injEq, true_and] at h
  omega
theorem keyD_key (k : Nat) (h : k < 4096) : WideAt.IsKeyLit (keyD k) := trivial
theorem secV_inj {s t : List UInt8} (h : secV s = secV t) : s = t := by
  unfold secV at h
  simp only [Value.agg.injEq] at h
  have h2 := congrArg Array.toList h
  simp only [List.toList_toArray] at h2
  refine (List.map_inj_right (f := byteV) (fun a b hab => ?_)).1 h2
  unfold byteV at hab
  simp only [Value.int.injEq, true_and] at hab
  exact UInt8.toNat_inj.1 (by omega)

/-! ### what is pending -/
structure PendAt (D : DataW Value) (pp : List (List UInt8)) : Prop where
  only : ∀ kl, Maps.has D kl = true → ∃ k, kl = keyD k ∧ k < pp.length ∧ pp.getD k [] ≠ []
  there : ∀ k, k < pp.length → pp.getD k [] ≠ [] → Maps.has D (keyD k) = true ∧ ∀ z, D.atKey (keyD k) z = .held (secV (pp.getD k []))
theorem getD_set {pp : List (List UInt8)} {k j : Nat} {b : List UInt8} (hk : k < pp.length) : (pp.set k b).getD j [] = if j = k then b else pp.getD j [] := by
  rw [List.getD_eq_getElem?_getD, List.getD_eq_getElem?_getD, List.getElem?_set]
  by_cases h : k = j
  · subst h
    rw [if_pos rfl, if_pos hk, if_pos rfl]
    rfl
  · rw [if_neg h, if_neg (fun e => h e.symm)]
theorem getD_blank (n j : Nat) : (List.replicate n ([] : List UInt8)).getD j [] = [] := by
  rw [List.getD_eq_getElem?_getD, List.getElem?_replicate]
  split <;> rfl
theorem PendAt.new (n : Nat) : PendAt (.map []) (List.replicate n []) :=
  ⟨fun kl h => (by cases h), fun k _ h => absurd (getD_blank n k) h⟩
theorem PendAt.put {D : DataW Value} {pp : List (List UInt8)} (h : PendAt D pp) (hD : Maps.IsMap D) {k : Nat} (hk : k < pp.length) (h4 : k < 4096) {b : List UInt8} (hb : b ≠ []) : PendAt (D.put (keyD k) (.held (secV b))) (pp.set k b) := by
  refine ⟨fun kl hkl => ?_, fun j hj hne => ?_⟩
  · by_cases e : kl = keyD k
    · exact ⟨k, e, by rw [List.length_set]; exact hk, by rw [getD_set hk, if_pos rfl]; exact hb⟩
    · rw [Maps.has_put_other e] at hkl
      obtain ⟨j, rfl, hj, hn⟩ := h.only kl hkl
      refine ⟨j, rfl, by rw [List.length_set]; exact hj, ?_⟩
      rw [getD_set hk, if_neg (fun e2 => e (by rw [e2]))]
      exact hn
  · rw [List.length_set] at hj
    rw [getD_set hk] at hne ⊢
    by_cases e : j = k
    · subst e
      rw [if_pos rfl]
      exact ⟨Maps.has_put_same hD (keyD_key j h4) _, fun z => Maps.atKey_put_same hD (keyD_key j h4) _ z⟩
    · rw [if_neg e] at hne ⊢
      have hne' : keyD j ≠ keyD k := fun e2 => e (keyD_inj e2)
      rw [Maps.has_put_other hne']
      exact ⟨(h.there j hj hne).1, fun z => by rw [Maps.atKey_put_other hne']; exact (h.there j hj hne).2 z⟩
theorem PendAt.hasIff {D : DataW Value} {pp : List (List UInt8)} (h : PendAt D pp) {k : Nat} (hk : k < pp.length) : Maps.has D (keyD k) = !(decide (pp.getD k [] = [])) := by
  by_cases e : pp.getD k [] = []
  · rw [decide_eq_true e]
    cases q : Maps.has D (keyD k) with
    | false => rfl
    | true =>
      obtain ⟨j, e2, _, hn⟩ := h.only _ q
      exact absurd (keyD_inj e2 ▸ e) hn
  · rw [decide_eq_false e]
    exact (h.there k hk e).1

/-! ### the numbers of those that are pending -/
theorem pendDkL_mem : ∀ (pp : List (List UInt8)) (k j : Nat), j ∈ pendDkL k pp ↔ k ≤ j ∧ j < k + pp.length ∧ pp.getD (j - k) [] ≠ []
  | [], k, j => by
    constructor
    · intro h; cases h
    · intro ⟨h1, h2, _⟩; simp at h2; omega
  | p :: pp, k, j => by
    have ih := pendDkL_mem pp (k + 1) j
    rw [pendDkL, List.length_cons]
    have hg : k < j → (p :: pp).getD (j - k) [] = pp.getD (j - (k + 1)) [] := fun hlt => by
      rw [show j - k = (j - (k + 1)) + 1 by omega]; rfl
    by_cases hp : p = []
    · rw [if_pos hp, ih]
      constructor
      · intro ⟨h1, h2, h3⟩; exact ⟨by omega, by omega, by rw [hg (by omega)]; exact h3⟩
      · intro ⟨h1, h2, h3⟩
        by_cases e : j = k
        · subst e
          rw [Nat.sub_self] at h3
          exact absurd hp h3
        · rw [hg (by omega)] at h3
          exact ⟨by omega, by omega, h3⟩
    · rw [if_neg hp, List.mem_cons, ih]
      constructor
      · intro h
        rcases h with rfl | ⟨h1, h2, h3⟩
        · exact ⟨Nat.le_refl _, by omega, by rw [Nat.sub_self]; exact hp⟩
        · exact ⟨by omega, by omega, by rw [hg (by omega)]; exact h3⟩
      · intro ⟨h1, h2, h3⟩
        by_cases e : j = k
        · exact .inl e
        · rw [hg (by omega)] at h3
          exact .inr ⟨by omega, by omega, h3⟩
theorem pendDkL_rise : ∀ (pp : List (List UInt8)) (k : Nat), (pendDkL k pp).Pairwise (· < ·)
  | [], _ => List.Pairwise.nil
  | p :: pp, k => by
    rw [pendDkL]
    split
    · exact pendDkL_rise pp (k + 1)
    · exact List.pairwise_cons.2 ⟨fun j hj => by have := ((pendDkL_mem pp (k + 1) j).1 hj).1; omega, pendDkL_rise pp (k + 1)⟩
theorem pendDkL_le : ∀ (pp : List (List UInt8)) (k : Nat), (pendDkL k pp).length ≤ pp.length
  | [], _ => Nat.le_refl _
  | p :: pp, k => by
    have := pendDkL_le pp (k + 1)
    rw [pendDkL, List.length_cons]
    split
    · omega
    · rw [List.length_cons]; omega
theorem pendDkL_at {pp : List (List UInt8)} {j i : Nat} (h : (pendDkL 0 pp)[j]? = some i) : i < pp.length ∧ pp.getD i [] ≠ [] := by
  have := (pendDkL_mem pp 0 i).1 (List.mem_of_getElem? h)
  rw [Nat.sub_zero, Nat.zero_add] at this
  exact ⟨this.2.1, this.2.2⟩
def numsZ (pp : List (List UInt8)) : List Int := (pendDkL 0 pp).map (fun k : Nat => (k : Int))
theorem PendAt.perm {D : DataW Value} {pp : List (List UInt8)} (h : PendAt D pp) {es : List (Lit × DataW Value)} (hD : D = .map es) (hp : es.Pairwise (fun p q => p.1 ≠ q.1)) (hk : ∀ p ∈ es, WideAt.IsKeyLit p.1) : (numsZ pp).Perm (intKeys D) := by
  have hin : ∀ p ∈ es, Maps.has D p.1 = true := fun p hp => by
    subst hD
    exact List.any_eq_true.2 ⟨p, hp, WideAt.sameKey_self (hk p hp)⟩
  have hin2 : ∀ p ∈ es, ∃ x, p.1 = .int .i64 x := fun p hp => by
    obtain ⟨k, e, _⟩ := h.only _ (hin p hp)
    exact ⟨_, e⟩
  subst hD
  refine perm_intKeys hp hin2 ?_ (fun x => ?_)
  · unfold numsZ
    refine List.pairwise_map.2 ((pendDkL_rise pp 0).imp fun {a b} hab e => ?_)
    have : (a : Int) = (b : Int) := e
    omega
  · unfold numsZ
    rw [List.mem_map]
    constructor
    · rintro ⟨k, hk, rfl⟩
      have := (pendDkL_mem pp 0 k).1 hk
      rw [Nat.sub_zero, Nat.zero_add] at this
      exact (h.there k this.2.1 this.2.2).1
    · intro hx
      obtain ⟨k, e, hk, hn⟩ := h.only _ hx
      simp only [Lit.int.injEq, true_and] at e
      exact ⟨k, (pendDkL_mem pp 0 k).2 ⟨Nat.zero_le _, by omega, by rw [Nat.sub_zero]; exact hn⟩, e.symm⟩
theorem numsZ_sorted (pp : List (List UInt8)) : (numsZ pp).mergeSort leI = numsZ pp := by
  refine List.mergeSort_of_pairwise (List.pairwise_map.2 ((pendDkL_rise pp 0).imp fun {a b} hab => ?_))
  show decide ((a : Int) ≤ (b : Int)) = true
  exact decide_eq_true (by omega)
theorem size_intKeys {D : DataW Value} {es : List (Lit × DataW Value)} (hD : D = .map es) : Maps.size D = (intKeys D).length := by
  subst hD
  show es.length = (es.map _).length
  rw [List.length_map]
theorem PendAt.size {D : DataW Value} {pp : List (List UInt8)} (h : PendAt D pp) {es : List (Lit × DataW Value)} (hD : D = .map es) (hp : es.Pairwise (fun p q => p.1 ≠ q.1)) (hk : ∀ p ∈ es, WideAt.IsKeyLit p.1) : Maps.size D ≤ pp.length := by
  rw [size_intKeys hD, ← (h.perm hD hp hk).length_eq]
  unfold numsZ
  rw [List.length_map]
  exact pendDkL_le pp 0

/-! ### Flush: those that are still to come are not laid yet -/
def mixD (left : Lit → Bool) : Nat → List (List UInt8) → List (List UInt8) → List (List UInt8)
  | k, s :: ss, p :: pp => (if p = [] ∨ left (keyD k) = true then s else p) :: mixD left (k + 1) ss pp
  | _, ss, _ => ss
theorem mixD_len (left : Lit → Bool) : ∀ (ss pp : List (List UInt8)) (k : Nat), (mixD left k ss pp).length = ss.length
  | [], _, _ => by unfold mixD; rfl
  | _ :: _, [], _ => rfl
  | s :: ss, p :: pp, k => by unfold mixD; rw [List.length_cons, List.length_cons, mixD_len left ss pp]
theorem mixD_start {left : Lit → Bool} : ∀ (ss pp : List (List UInt8)) (k : Nat), (∀ j, j < pp.length → pp.getD j [] ≠ [] → left (keyD (k + j)) = true) → mixD left k ss pp = ss
  | [], _, _, _ => by unfold mixD; rfl
  | _ :: _, [], _, _ => rfl
  | s :: ss, p :: pp, k, h => by
    unfold mixD
    have h0 : p = [] ∨ left (keyD k) = true := by
      by_cases hp : p = []
      · exact .inl hp
      · exact .inr (h 0 (by simp) hp)
    rw [if_pos h0, mixD_start ss pp (k + 1) (fun j hj hn => by
      have := h (j + 1) (by simpa using hj) (by simpa using hn)
      rw [show k + 1 + j = k + (j + 1) by omega]
      exact this)]
theorem mixD_end {left : Lit → Bool} (hl : ∀ kl, left kl = false) : ∀ (ss pp : List (List UInt8)) (k : Nat), mixD left k ss pp = standDkL ss pp
  | [], pp, k => by unfold mixD standDkL; rfl
  | _ :: _, [], _ => rfl
  | s :: ss, p :: pp, k => by
    unfold mixD standDkL
    rw [mixD_end hl ss pp (k + 1), hl]
    simp
theorem mixD_step {left : Lit → Bool} : ∀ (ss pp : List (List UInt8)) (k j : Nat), ss.length = pp.length → j < pp.length → pp.getD j [] ≠ [] → mixD (fun z => left z && !z.sameKey (keyD (k + j))) k ss pp = (mixD left k ss pp).set j (pp.getD j [])
  | [], [], _, _, _, hj, _ => absurd hj (Nat.not_lt_zero _)
  | [], _ :: _, _, _, h, _, _ => by cases h
  | _ :: _, [], _, _, h, _, _ => by cases h
  | s :: ss, p :: pp, k, j, hl, hj, hn => by
    unfold mixD
    cases j with
    | zero =>
      have hp : p ≠ [] := hn
      have hs : (keyD k).sameKey (keyD (k + 0)) = true := by simp [Lit.sameKey]
      rw [List.set_cons_zero, if_neg (by rw [hs]; simp [hp])]
      show p :: _ = p :: _
      congr 1
      have hgo : ∀ (l : List (List UInt8)) (q : List (List UInt8)) (i : Nat), k < i → mixD (fun z => left z && !z.sameKey (keyD (k + 0))) i l q = mixD left i l q := by
        intro l
        induction l with
        | nil => intro q i _; unfold mixD; rfl
        | cons x l ih =>
          intro q i hi
          cases q with
          | nil => rfl
          | cons y q =>
            unfold mixD
            have e : (keyD i).sameKey (keyD (k + 0)) = false := by simp [Lit.sameKey]; omega
            rw [ih q (i + 1) (by omega), e]
            simp
      exact hgo ss pp (k + 1) (by omega)
    | succ j =>
      have e : (keyD k).sameKey (keyD (k + (j + 1))) = false := by simp [Lit.sameKey]; omega
      have := mixD_step (left := left) ss pp (k + 1) j (by simpa using hl) (by simpa using hj) (by simpa using hn)
      rw [show k + 1 + j = k + (j + 1) by omega] at this
      rw [this, List.set_cons_succ, e]
      simp

/-! ### Crash: the numbers one after another -/
def crF (pp : List (List UInt8)) : List (List UInt8) → List Bool → List Nat → List (List UInt8)
  | ss, _, [] => ss
  | ss, keep, i :: is => crF pp (if keep.headD false then ss.set i (pp.getD i []) else ss) keep.tail is
theorem crF_all : ∀ (A ss B pp : List (List UInt8)) (keep : List Bool), A.length = B.length → ss.length = pp.length → crF (B ++ pp) (A ++ ss) keep (pendDkL B.length pp) = A ++ crashDkL ss pp keep
  | A, [], B, [], keep, _, _ => by simp [pendDkL, crF, crashDkL]
  | _, [], _, _ :: _, _, _, h => by cases h
  | _, _ :: _, _, [], _, _, h => by cases h
  | A, s :: ss, B, p :: pp, keep, hA, hl => by
    have hl' : ss.length = pp.length := by simpa using hl
    have hB1 : (B ++ [p]).length = B.length + 1 := by simp
    have e1 : B ++ p :: pp = (B ++ [p]) ++ pp := by simp
    rw [pendDkL, crashDkL]
    by_cases hp : p = []
    · rw [if_pos hp, if_pos hp]
      have := crF_all (A ++ [s]) ss (B ++ [p]) pp keep (by simp [hA]) hl'
      rw [hB1] at this
      rw [e1, show A ++ s :: ss = (A ++ [s]) ++ ss by simp, this]
      simp
    · rw [if_neg hp, if_neg hp, crF]
      have hg : (B ++ p :: pp).getD B.length [] = p := getD_mid B pp p [] B.length rfl
      have hset : (A ++ s :: ss).set B.length p = (A ++ [p]) ++ ss := by
        rw [set_at A ss s p B.length hA]; simp
      rw [hg, hset]
      have hx : (if keep.headD false = true then (A ++ [p]) ++ ss else A ++ s :: ss) = (A ++ [if keep.headD false = true then p else s]) ++ ss := by
        split <;> simp
      rw [hx, e1]
      have := crF_all (A ++ [if keep.headD false = true then p else s]) ss (B ++ [p]) pp keep.tail (by simp [hA]) hl'
      rw [hB1] at this
      rw [this]
      simp
theorem crF_whole {ss pp : List (List UInt8)} (h : ss.length = pp.length) (keep : List Bool) : crF pp ss keep (pendDkL 0 pp) = crashDkL ss pp keep := by
  have := crF_all [] ss [] pp keep rfl h
  simpa using this
theorem crF_step (pp ss : List (List UInt8)) (keep : List Bool) (ks : List Nat) (j i : Nat) (h : ks[j]? = some i) :
    crF pp ss (keep.drop j) (ks.drop j) = crF pp (if keep.getD j false then ss.set i (pp.getD i []) else ss) (keep.drop (j + 1)) (ks.drop (j + 1)) := by
  obtain ⟨hj, e⟩ := List.getElem?_eq_some_iff.1 h
  rw [List.drop_eq_getElem_cons hj, e, crF, List.tail_drop]
  have : (keep.drop j).headD false = keep.getD j false := by
    rw [List.headD_eq_head?_getD, List.head?_drop, List.getD_eq_getElem?_getD]
  rw [this]
theorem crF_done (pp ss : List (List UInt8)) (keep : List Bool) (ks : List Nat) (j : Nat) (h : ks.length ≤ j) : crF pp ss keep (ks.drop j) = ss := by
  rw [List.drop_eq_nil_of_le h, crF]

/-! ### what stands: a row of bytes, 64 a sector -/
structure SecRow (w : World) (g : Nat) (ss : List (List UInt8)) (t : TypeId) : Prop where
  row : ∃ C, rowIs w g C t ∧ C.size = ss.length * 64
  at_ : ∀ k, k < ss.length → w.rangeAt g (k * 64) ((ss.getD k []).map byteV)
  full : ∀ s, s ∈ ss → s.length = 64
theorem SecRow.lt {w : World} {g : Nat} {ss : List (List UInt8)} {t : TypeId} (h : SecRow w g ss t) : g < w.heap.size := by
  obtain ⟨C, hr, _⟩ := h.row
  exact hr.lt
theorem cell_kept {X : Nat → Prop} {w w' : World} (hk : Kept X w w') {g j : Nat} (hx : ¬ X g) (hg : g < w.heap.size) : w'.cell? ⟨g, j, none⟩ = w.cell? ⟨g, j, none⟩ := by
  unfold World.cell?
  simp only [hk.2 g hg hx]
theorem SecRow.kept {X : Nat → Prop} {w w' : World} {g : Nat} {ss : List (List UInt8)} {t : TypeId} (h : SecRow w g ss t) (hk : Kept X w w') (hx : ¬ X g) : SecRow w' g ss t := by
  obtain ⟨C, hr, hs⟩ := h.row
  refine ⟨⟨C, hr.kept hk hx, hs⟩, fun k hk' j v hv => ?_, h.full⟩
  rw [(hr.kept hk hx).cell, ← hr.cell]
  exact h.at_ k hk' j v hv
theorem setCells_row (b : Nat) : ∀ (vs : List Value) (o : Nat) (w : World) (C : Array Value) (t : TypeId), rowIs w b C t → ∃ C', rowIs (w.setCells b o vs) b C' t ∧ C'.size = C.size
  | [], _, w, C, t, h => ⟨C, h, rfl⟩
  | v :: r, o, w, C, t, h => by
    rw [World.setCells]
    obtain ⟨C', h1, h2⟩ := setCells_row b r (o + 1) _ _ t (h.setCell o v)
    exact ⟨C', h1, by rw [h2]; simp⟩
theorem setCells_kept (b : Nat) : ∀ (vs : List Value) (o : Nat) (w : World), Kept (fun k => k = b) w (w.setCells b o vs)
  | [], _, w => Kept.refl _ _
  | v :: r, o, w => by
    rw [World.setCells]
    exact ((Kept.refl (fun k => k = b) w).setCell (i := o) (.inl rfl) v).trans (setCells_kept b r (o + 1) _) (fun k hk _ => hk)
theorem setCells_size (b : Nat) : ∀ (vs : List Value) (o : Nat) (w : World), (w.setCells b o vs).heap.size = w.heap.size
  | [], _, _ => rfl
  | v :: r, o, w => by rw [World.setCells, setCells_size b r]; simp
theorem SecRow.there {w : World} {g : Nat} {ss : List (List UInt8)} {t : TypeId} (h : SecRow w g ss t) {k : Nat} (hk : k < ss.length) : w.there g (k * 64) 64 := fun j hj => by
  obtain ⟨C, hr, hs⟩ := h.row
  refine ⟨?_, hr.free _⟩
  rw [hr.cell, Array.getElem?_eq_getElem (show k * 64 + j < C.size by rw [hs]; have := Nat.mul_le_mul_right 64 (show k + 1 ≤ ss.length by omega); omega)]
  rfl
/-- a sector is laid there -/
theorem SecRow.set {w : World} {g : Nat} {ss : List (List UInt8)} {t : TypeId} (h : SecRow w g ss t) {k : Nat} (hk : k < ss.length) {s : List UInt8} (hs : s.length = 64) : SecRow (w.setCells g (k * 64) (s.map byteV)) g (ss.set k s) t := by
  obtain ⟨C, hr, hsz⟩ := h.row
  obtain ⟨C', h1, h2⟩ := setCells_row g (s.map byteV) (k * 64) w C t hr
  refine ⟨⟨C', h1, by rw [h2, List.length_set]; exact hsz⟩, fun j hj => ?_, fun x hx => ?_⟩
  · rw [List.length_set] at hj
    rw [getD_set hk]
    by_cases e : j = k
    · subst e
      rw [if_pos rfl]
      exact World.rangeAt_setCells_same w g (j * 64) _ (by rw [List.length_map, hs]; exact h.there hk)
    · rw [if_neg e]
      refine World.rangeAt_setCells_apart (h.at_ j hj) g (k * 64) _ (.inr ?_)
      have hl : (ss.getD j []).length = 64 := by
        rw [List.getD_eq_getElem?_getD, List.getElem?_eq_getElem hj]
        exact h.full _ (List.getElem_mem hj)
      rw [List.length_map, List.length_map, hl, hs]
      rcases Nat.lt_or_gt_of_ne e with e | e
      · left; omega
      · right; omega
  · rcases List.mem_or_eq_of_mem_set hx with hx | rfl
    · exact h.full x hx
    · exact hs
theorem SecRow.new {w : World} {g n : Nat} {t : TypeId} (h : rowIs w g (Array.replicate (n * 64) (.int .u8 0)) t) : SecRow w g (List.replicate n blankS) t := by
  refine ⟨⟨_, h, by simp⟩, fun k hk j v hv => ?_, fun s hs => by rw [(List.mem_replicate.1 hs).2]; rfl⟩
  rw [List.length_replicate] at hk
  rw [h.cell]
  have hg : (List.replicate n blankS).getD k [] = blankS := by
    rw [List.getD_eq_getElem?_getD, List.getElem?_replicate, if_pos hk]; rfl
  rw [hg] at hv
  unfold blankS at hv
  rw [List.map_replicate, List.getElem?_replicate] at hv
  split at hv
  · rename_i hj
    rw [Array.getElem?_replicate, if_pos (by have := Nat.mul_le_mul_right 64 (show k + 1 ≤ n by omega); omega)]
    exact hv
  · cases hv
end Go.Pantry
