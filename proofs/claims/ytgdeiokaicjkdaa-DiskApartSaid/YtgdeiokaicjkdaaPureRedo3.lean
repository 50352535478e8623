/-
  A journal over a disk: what stands behind any crash and opening; bytes of all data sectors. No program is imported.
-/
import Derived.Test.YtgdeiokaicjkdaaPureRedo2
set_option linter.unusedVariables false
set_option linter.unusedSimpArgs false
namespace Go.Pantry
open Go.RowKit

/-- a job's changes, as they are found -/
def fullJ (b : List ChgM) : List ChgM := b.map fun c => (c.1, padS c.2)
theorem padS_padS {b : List UInt8} (h : b.length ≤ 64) : padS (padS b) = padS b := padS_full (padS_len h)
theorem write_pad (m : DiskM) (i : Int) {b : List UInt8} (h : b.length ≤ 64) : writeDk m i (padS b) = writeDk m i b := by
  unfold writeDk
  rw [padS_padS h, padS_len h]
  have e : (¬ ThereDk m i ∨ 64 < 64) = (¬ ThereDk m i ∨ 64 < b.length) := by
    rw [eq_iff_iff]; constructor <;> rintro (h1 | h1) <;> first | exact .inl h1 | omega
  simp only [e]
theorem writes_pad : ∀ (b : List ChgM) (m : DiskM), (∀ c ∈ b, c.2.length ≤ 64) → writesM m (dataW (fullJ b)) = writesM m (dataW b)
  | [], _, _ => rfl
  | c :: b, m, h => by
    show andE (writeDk m (100 + c.1) (padS c.2)) _ = andE (writeDk m (100 + c.1) c.2) _
    rw [write_pad m _ (h c (by simp))]
    unfold andE
    split
    · exact writes_pad b _ (fun x hx => h x (by simp [hx]))
    · rfl
theorem finish_pad (b : List ChgM) (m : DiskM) (h : ∀ c ∈ b, c.2.length ≤ 64) : finishM m (fullJ b) = finishM m b := by
  unfold finishM; rw [writes_pad b m h]
/-- wherever a job may have been cut off -/
def Mid (nd : Nat) (b : List ChgM) (was : Nat → List UInt8) (m : DiskM) : Prop :=
  Ph1 nd was m ∨ Ph2 nd b was m ∨ Ph3 nd b was (nowJ b was) m ∨ Ph4 nd b (nowJ b was) m ∨ CleanJ nd (nowJ b was) m
/-- what is found behind a crash -/
inductive FoundJ (nd : Nat) (b : List ChgM) (was : Nat → List UInt8) (m : DiskM) : Prop
  | none (h : CleanJ nd was m)
  | all (h : CleanJ nd (nowJ b was) m)
  | again (h : Again nd b was (nowJ b was) m)
theorem CleanJ.mid {nd : Nat} {b : List ChgM} {was : Nat → List UInt8} {m : DiskM} (h : CleanJ nd was m) : Mid nd b was m := .inl ⟨h.head, h.none 0, fun i => h.none _, h.data⟩
theorem Again.mid {nd : Nat} {b : List ChgM} {was : Nat → List UInt8} {m : DiskM} (h : Again nd b was (nowJ b was) m) : Mid nd b was m := .inr (.inr (.inl ⟨h.head, fun k _ => h.none k, h.body, h.data, fun i _ => .inl (h.none _)⟩))
theorem FoundJ.mid {nd : Nat} {b : List ChgM} {was : Nat → List UInt8} {m : DiskM} (h : FoundJ nd b was m) : Mid nd b was m := by
  rcases h with h | h | h
  · exact h.mid
  · exact .inr (.inr (.inr (.inr h)))
  · exact h.mid
theorem Mid.crash {n nd : Nat} {b : List ChgM} {was : Nat → List UInt8} {m : DiskM} (hb : b.length ≤ 96) (hd : Dsk n m) (h : Mid nd b was m) (keep : List Bool) : FoundJ nd b was (crashDk m keep) := by
  rcases h with h | h | h | h | h
  · exact .none (h.crash hd keep)
  · rcases h.crash (nowJ b was) hb hd keep with h | h
    · exact .none h
    · exact .again h
  · exact .again (h.crash hb hd keep)
  · rcases h.crash was hb hd keep with h | h
    · exact .all h
    · exact .again h
  · exact .all (h.crash hd keep)
theorem CleanJ.armed {nd : Nat} {X : Nat → List UInt8} {m : DiskM} (h : CleanJ nd X m) (k : Int) : CleanJ nd X (armDk m k) := ⟨h.head, h.none, h.data⟩
theorem Again.armed {nd : Nat} {b : List ChgM} {was now : Nat → List UInt8} {m : DiskM} (h : Again nd b was now m) (k : Int) : Again nd b was now (armDk m k) := ⟨h.head, h.none, h.body, h.data⟩
theorem FoundJ.armed {nd : Nat} {b : List ChgM} {was : Nat → List UInt8} {m : DiskM} (h : FoundJ nd b was m) (k : Int) : FoundJ nd b was (armDk m k) := by
  rcases h with h | h | h
  · exact .none (h.armed k)
  · exact .all (h.armed k)
  · exact .again (h.armed k)
theorem finish_mid {n nd : Nat} (hn : n = 100 + nd) {b : List ChgM} (hb : RightJ nd b) {was : Nat → List UInt8} {m : DiskM} (hd : Dsk n m) (hu : m.down = false) (h : Again nd b was (nowJ b was) m) :
    Dsk n (finishM m b).2 ∧ Mid nd b was (finishM m b).2 ∧ (m.arm = none → (finishM m b).1 = 0 ∧ (finishM m b).2.down = false ∧ (finishM m b).2.arm = none ∧ CleanJ nd (nowJ b was) (finishM m b).2) ∧ ((finishM m b).1 = 0 → (finishM m b).2.down = false ∧ CleanJ nd (nowJ b was) (finishM m b).2) ∧ ((finishM m b).1 = 0 ∨ (finishM m b).1 = 40) := by
  obtain ⟨h1, h2, h3⟩ := finish_from hn hb hd hu h
  rcases h3 with ⟨e, g1, g2⟩ | ⟨e, g⟩
  · exact ⟨h1, .inr (.inr (.inr (.inr g2))), fun ha => ⟨e, g1, (h2 ha).2, g2⟩, fun _ => ⟨g1, g2⟩, .inl e⟩
  · refine ⟨h1, ?_, fun ha => (by rw [(h2 ha).1] at e; cases e), fun e0 => (by rw [e0] at e; cases e), .inr e⟩
    rcases g with g | g
    · exact .inr (.inr (.inl g))
    · exact .inr (.inr (.inr (.inl g)))
/-- a job, from a clean disk on -/
theorem do_from {n nd : Nat} (hn : n = 100 + nd) {b : List ChgM} (hb : RightJ nd b) {was : Nat → List UInt8} {m : DiskM} (hd : Dsk n m) (hu : m.down = false) (h : CleanJ nd was m) :
    Dsk n (doM m b).2 ∧ Mid nd b was (doM m b).2 ∧ (m.arm = none → (doM m b).1 = 0 ∧ (doM m b).2.arm = none) ∧ ((doM m b).1 = 0 → (doM m b).2.down = false ∧ CleanJ nd (nowJ b was) (doM m b).2) ∧ ((doM m b).1 = 0 ∨ (doM m b).1 = 40) := by
  have hr : RightJ (m.stands.length - 100) b := by rw [hd.ok.len, show n - 100 = nd by omega]; exact hb
  obtain ⟨h1, h2, h3⟩ := lay_from hn hb (nowJ b was) hd hu h
  unfold doM andE
  rw [if_pos hr]
  rcases h3 with ⟨e, g1, g2, -⟩ | ⟨e, g⟩
  · rw [if_pos e]
    obtain ⟨k1, k2, k3, k4, k5⟩ := finish_mid hn hb h1 g1 g2
    exact ⟨k1, k2, fun ha => ⟨(k3 (h2 ha).2).1, (k3 (h2 ha).2).2.2.1⟩, k4, k5⟩
  · rw [if_neg (by rw [e]; decide)]
    refine ⟨h1, ?_, fun ha => (by rw [(h2 ha).1] at e; cases e), fun e0 => (by rw [e0] at e; cases e), .inr e⟩
    rcases g with g | g
    · exact .inl g
    · exact .inr (.inl g)
theorem do_form {n nd : Nat} (hn : n = 100 + nd) {b : List ChgM} (hb : ¬ RightJ nd b) {m : DiskM} (hd : Dsk n m) : doM m b = (10, m) := by
  unfold doM
  rw [if_neg (by rw [hd.ok.len, show n - 100 = nd by omega]; exact hb)]
theorem CleanJ.pend {n nd : Nat} {X : Nat → List UInt8} {m : DiskM} (hd : Dsk n m) (h : CleanJ nd X m) : pendDkL 0 m.pend = [] := by
  have e : m.pend = List.replicate n [] := by
    apply List.ext_getElem
    · rw [hd.ok.lenP, List.length_replicate]
    · intro i h1 h2
      have := h.none i
      unfold peK at this
      rw [List.getD_eq_getElem?_getD, List.getElem?_eq_getElem h1] at this
      rw [List.getElem_replicate]; exact this
  rw [e]; exact pendDkL_none 0 n
theorem clean_new (nd : Nat) : CleanJ nd (fun _ => blankS) (newDk (100 + nd)) := by
  have e : ∀ k, k < 100 + nd → stK (newDk (100 + nd)) k = blankS := fun k hk => by
    unfold stK newDk
    rw [List.getD_eq_getElem?_getD, List.getElem?_replicate, if_pos hk]; rfl
  refine ⟨e 0 (by omega), fun k => ?_, fun i hi => e _ (by omega)⟩
  exact getD_replicate_nil _ _
/-! the bytes of all data sectors -/
def flatX (nd : Nat) (X : Nat → List UInt8) : List UInt8 := (List.range nd).flatMap X
theorem flatX_succ (nd : Nat) (X : Nat → List UInt8) : flatX (nd + 1) X = flatX nd X ++ X nd := by
  unfold flatX; rw [List.range_succ, List.flatMap_append]; simp
theorem flatX_len : ∀ (nd : Nat) (X : Nat → List UInt8), (∀ i, i < nd → (X i).length = 64) → (flatX nd X).length = 64 * nd
  | 0, _, _ => rfl
  | nd + 1, X, h => by rw [flatX_succ, List.length_append, flatX_len nd X (fun i hi => h i (by omega)), h nd (by omega)]; omega
theorem flatX_congr {nd : Nat} {X Y : Nat → List UInt8} (h : ∀ i, i < nd → X i = Y i) : flatX nd X = flatX nd Y := by
  induction nd with
  | zero => rfl
  | succ n ih => rw [flatX_succ, flatX_succ, ih (fun i hi => h i (by omega)), h n (by omega)]
/-- the i-th piece -/
theorem flatX_piece : ∀ (nd : Nat) (X : Nat → List UInt8) (i : Nat), (∀ i, i < nd → (X i).length = 64) → i < nd → ((flatX nd X).drop (64 * i)).take 64 = X i
  | 0, _, _, _, h => by omega
  | nd + 1, X, i, h, hi => by
    have hl := flatX_len nd X (fun i hi => h i (by omega))
    rw [flatX_succ]
    by_cases e : i = nd
    · subst e
      rw [List.drop_append_of_le_length (by omega), List.drop_eq_nil_of_le (by omega), List.nil_append, List.take_of_length_le (by rw [h i (by omega)]; exact Nat.le_refl _)]
    · rw [List.drop_append_of_le_length (by omega), List.take_append_of_le_length (by rw [List.length_drop]; omega)]
      exact flatX_piece nd X i (fun i hi => h i (by omega)) (by omega)
theorem flatX_inj {nd : Nat} {X Y : Nat → List UInt8} (hX : ∀ i, i < nd → (X i).length = 64) (hY : ∀ i, i < nd → (Y i).length = 64) (h : flatX nd X = flatX nd Y) : ∀ i, i < nd → X i = Y i := fun i hi => by
  rw [← flatX_piece nd X i hX hi, ← flatX_piece nd Y i hY hi, h]
/-- bytes with 64 of them laid over -/
def overB (out : List UInt8) (i : Nat) (s : List UInt8) : List UInt8 := out.take (64 * i) ++ (s ++ out.drop (64 * i + 64))
theorem overB_flat : ∀ (nd : Nat) (X : Nat → List UInt8) (i : Nat) (s : List UInt8), (∀ i, i < nd → (X i).length = 64) → i < nd → overB (flatX nd X) i s = flatX nd (fun k => if k = i then s else X k)
  | 0, _, _, _, _, h => by omega
  | nd + 1, X, i, s, h, hi => by
    have hl := flatX_len nd X (fun i hi => h i (by omega))
    have hn := h nd (by omega)
    rw [flatX_succ, flatX_succ]
    by_cases e : i = nd
    · subst e
      unfold overB
      rw [List.take_append_of_le_length (by omega), List.take_of_length_le (by omega), List.drop_eq_nil_of_le (by rw [List.length_append]; omega), List.append_nil]
      rw [if_pos rfl]
      rw [flatX_congr (nd := i) (X := fun k => if k = i then s else X k) (Y := X) (fun k hk => if_neg (by omega))]
    · have ih := overB_flat nd X i s (fun i hi => h i (by omega)) (by omega)
      unfold overB at ih ⊢
      rw [← ih, if_neg (fun hh => e hh.symm)]
      rw [List.take_append_of_le_length (by omega), List.drop_append_of_le_length (by omega)]
      simp only [List.append_assoc]
def doneB : List UInt8 → List ChgM → List UInt8
  | out, [] => out
  | out, c :: b => doneB (overB out c.1.toNat (padS c.2)) b
theorem doneB_flat (nd : Nat) : ∀ (b : List ChgM) (X : Nat → List UInt8), (∀ i, i < nd → (X i).length = 64) → (∀ c ∈ b, 0 ≤ c.1 ∧ c.1 < (nd : Int) ∧ c.2.length ≤ 64) → doneB (flatX nd X) b = flatX nd (nowJ b X)
  | [], X, _, _ => rfl
  | c :: b, X, hX, hb => by
    obtain ⟨h0, h1, h2⟩ := hb c (by simp)
    rw [doneB, overB_flat nd X c.1.toNat (padS c.2) hX (by omega)]
    rw [doneB_flat nd b _ (fun i hi => ?_) (fun x hx => hb x (by simp [hx]))]
    · rfl
    · show (if i = c.1.toNat then padS c.2 else X i).length = 64
      split
      · exact padS_len h2
      · exact hX i hi
theorem nowJ_len {nd : Nat} {b : List ChgM} {X : Nat → List UInt8} (hX : ∀ i, i < nd → (X i).length = 64) (hb : ∀ c ∈ b, c.2.length ≤ 64) : ∀ i, i < nd → (nowJ b X i).length = 64 := fun i hi => by
  rcases overW_or (b.map fun c => (c.1, c.2)) X i with e | ⟨x, hx, -, e⟩
  · unfold nowJ; rw [e]; exact hX i hi
  · obtain ⟨c, hc, rfl⟩ := List.mem_map.1 hx
    unfold nowJ; rw [e]; exact padS_len (hb c hc)
theorem CleanJ.len {n nd : Nat} (hn : n = 100 + nd) {X : Nat → List UInt8} {m : DiskM} (hd : Dsk n m) (h : CleanJ nd X m) : ∀ i, i < nd → (X i).length = 64 := fun i hi => by
  rw [← h.data i hi]
  unfold stK
  have h1 : 100 + i < m.stands.length := by rw [hd.ok.len]; omega
  rw [List.getD_eq_getElem?_getD, List.getElem?_eq_getElem h1]
  exact hd.ok.full _ (List.getElem_mem h1)
/-- what is read of a clean disk -/
theorem CleanJ.read {n nd : Nat} (hn : n = 100 + nd) {X : Nat → List UInt8} {m : DiskM} (hd : Dsk n m) (hu : m.down = false) (h : CleanJ nd X m) {i : Nat} (hi : i < nd) : readDk m ((100 + i : Nat) : Int) = (0, X i) := by
  unfold readDk
  rw [hu, if_neg (by decide), if_neg (fun hh => hh ⟨by omega, by rw [hd.ok.len]; omega⟩), Int.toNat_natCast, hd.good, if_neg (by decide)]
  unfold valueDk
  have e := h.none (100 + i)
  unfold peK at e
  rw [if_pos e]
  exact congrArg (Prod.mk 0) (h.data i hi)
theorem CleanJ.head0 {n nd : Nat} (hn : n = 100 + nd) {X : Nat → List UInt8} {m : DiskM} (hd : Dsk n m) (hu : m.down = false) (h : CleanJ nd X m) : readDk m 0 = (0, blankS) := by
  unfold readDk
  rw [hu, if_neg (by decide), if_neg (fun hh => hh ⟨by omega, by rw [hd.ok.len]; omega⟩), show (0 : Int).toNat = 0 from rfl, hd.good, if_neg (by decide)]
  unfold valueDk
  have e := h.none 0
  unfold peK at e
  rw [if_pos e]
  exact congrArg (Prod.mk 0) h.head
/-- what is read of one that is to be done again -/
theorem Again.read {n nd : Nat} (hn : n = 100 + nd) {b : List ChgM} {was now : Nat → List UInt8} {m : DiskM} (hd : Dsk n m) (hu : m.down = false) (h : Again nd b was now m) {k : Nat} (hk : k < n) : readDk m (k : Int) = (0, stK m k) := by
  unfold readDk
  rw [hu, if_neg (by decide), if_neg (fun hh => hh ⟨by omega, by rw [hd.ok.len]; omega⟩), Int.toNat_natCast, hd.good, if_neg (by decide)]
  unfold valueDk
  have e := h.none k
  unfold peK at e
  rw [if_pos e]
  rfl
end Go.Pantry
