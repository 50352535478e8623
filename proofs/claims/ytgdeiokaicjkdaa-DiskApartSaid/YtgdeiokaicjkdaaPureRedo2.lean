/-
  A journal over a disk: wherever the power goes in a job all of it stands in the end, or none. No program is imported.
-/
import Derived.Test.YtgdeiokaicjkdaaPureRedo
set_option linter.unusedVariables false
set_option linter.unusedSimpArgs false
namespace Go.Pantry
open Go.RowKit

/-- a disk without bad sectors -/
structure Dsk (n : Nat) (m : DiskM) : Prop where
  ok : DiskOk n m
  good : ∀ k, m.bad.getD k false = false
def overW : List (Int × List UInt8) → (Nat → List UInt8) → Nat → List UInt8
  | [], f => f
  | x :: W, f => overW W fun k => if k = x.1.toNat then padS x.2 else f k
theorem overW_out : ∀ (W : List (Int × List UInt8)) (f : Nat → List UInt8) (k : Nat), (∀ x ∈ W, x.1.toNat ≠ k) → overW W f k = f k
  | [], _, _, _ => rfl
  | x :: W, f, k, h => by
    rw [overW, overW_out W _ k (fun y hy => h y (by simp [hy])), if_neg (fun e => h x (by simp) e.symm)]
theorem overW_in : ∀ (W : List (Int × List UInt8)) (f : Nat → List UInt8) (x : Int × List UInt8), x ∈ W → (W.map (·.1.toNat)).Nodup → overW W f x.1.toNat = padS x.2
  | [], _, _, h, _ => by cases h
  | y :: W, f, x, h, hd => by
    rw [List.map_cons, List.nodup_cons] at hd
    rcases List.mem_cons.1 h with rfl | h
    · rw [overW, overW_out W _ _ (fun z hz e => hd.1 (List.mem_map.2 ⟨z, hz, e⟩)), if_pos rfl]
    · rw [overW]; exact overW_in W _ x h hd.2
theorem overW_or : ∀ (W : List (Int × List UInt8)) (f : Nat → List UInt8) (k : Nat), overW W f k = f k ∨ ∃ x ∈ W, x.1.toNat = k ∧ overW W f k = padS x.2
  | [], _, _ => .inl rfl
  | x :: W, f, k => by
    rw [overW]
    rcases overW_or W (fun k => if k = x.1.toNat then padS x.2 else f k) k with h | ⟨y, hy, e, h⟩
    · by_cases hk : k = x.1.toNat
      · exact .inr ⟨x, by simp, hk.symm, by rw [h, if_pos hk]⟩
      · exact .inl (by rw [h, if_neg hk])
    · exact .inr ⟨y, by simp [hy], e, h⟩
theorem overW_congr : ∀ (W : List (Int × List UInt8)) {f g : Nat → List UInt8} (k : Nat), f k = g k → overW W f k = overW W g k
  | [], _, _, _, h => h
  | x :: W, f, g, k, h => by
    rw [overW, overW]
    exact overW_congr W k (by rw [h])
/-- writes that may be done -/
def FitW (n : Nat) (W : List (Int × List UInt8)) : Prop := ∀ x ∈ W, 0 ≤ x.1 ∧ x.1 < (n : Int) ∧ x.2.length ≤ 64
theorem Dsk.write {n : Nat} {m : DiskM} (h : Dsk n m) (i : Int) (b : List UInt8) : Dsk n (writeDk m i b).2 := ⟨h.ok.write i b, fun k => by rw [write_bad]; exact h.good k⟩
theorem Dsk.flush {n : Nat} {m : DiskM} (h : Dsk n m) : Dsk n (flushDk m).2 := ⟨h.ok.flush, fun k => by rw [flush_bad]; exact h.good k⟩
theorem Dsk.crash {n : Nat} {m : DiskM} (h : Dsk n m) (keep : List Bool) : Dsk n (crashDk m keep) := ⟨h.ok.crash keep, h.good⟩
theorem Dsk.arm {n : Nat} {m : DiskM} (h : Dsk n m) (k : Int) : Dsk n (armDk m k) := ⟨h.ok.armed k, h.good⟩
theorem Dsk.new (n : Nat) : Dsk n (newDk n) := ⟨ok_new n, fun k => by show (List.replicate n false).getD k false = false; rw [List.getD_eq_getElem?_getD, List.getElem?_replicate]; split <;> rfl⟩
/-- what writes leave -/
theorem writes_up {n : Nat} : ∀ (W : List (Int × List UInt8)) {m : DiskM}, Dsk n m → m.down = false → FitW n W →
    Dsk n (writesM m W).2 ∧ (∀ k, stK (writesM m W).2 k = stK m k) ∧ (m.arm = none → (writesM m W).1 = 0 ∧ (writesM m W).2.arm = none) ∧
    (((writesM m W).1 = 0 ∧ (writesM m W).2.down = false ∧ ∀ k, peK (writesM m W).2 k = overW W (peK m) k) ∨
     ((writesM m W).1 = 40 ∧ ∀ k, peK (writesM m W).2 k = peK m k ∨ ∃ x ∈ W, x.1.toNat = k ∧ peK (writesM m W).2 k = padS x.2))
  | [], m, h, hu, _ => ⟨h, fun _ => rfl, fun ha => ⟨rfl, ha⟩, .inl ⟨rfl, hu, fun _ => rfl⟩⟩
  | x :: W, m, h, hu, hf => by
    obtain ⟨h0, h1, h2⟩ := hf x (by simp)
    have hx : ((x.1.toNat : Nat) : Int) = x.1 := by omega
    have hw := write_up h.ok hu (i := x.1.toNat) (by omega) h2
    rw [hx] at hw
    have hd := h.write x.1 x.2
    unfold writesM andE
    rcases hw with ⟨e, hu', hst, hpe⟩ | ⟨e, ha, hst, hpe⟩
    · rw [if_pos e]
      obtain ⟨g1, g2, g3, g4⟩ := writes_up W hd hu' (fun y hy => hf y (by simp [hy]))
      refine ⟨g1, fun k => (g2 k).trans (hst k), fun ha => g3 ((write_arm x.1 x.2 ha hu).1), ?_⟩
      rcases g4 with ⟨k1, k2, k3⟩ | ⟨k1, k2⟩
      · refine .inl ⟨k1, k2, fun k => ?_⟩
        rw [k3 k, overW]
        exact overW_congr W k (hpe k)
      · refine .inr ⟨k1, fun k => ?_⟩
        rcases k2 k with h5 | ⟨y, hy, e1, e2⟩
        · by_cases hk : k = x.1.toNat
          · exact .inr ⟨x, by simp, hk.symm, by rw [h5, hpe k, if_pos hk]⟩
          · exact .inl (by rw [h5, hpe k, if_neg hk])
        · exact .inr ⟨y, by simp [hy], e1, e2⟩
    · rw [if_neg (by rw [e]; decide)]
      exact ⟨hd, hst, fun hn => (by rw [hn] at ha; cases ha), .inr ⟨e, fun k => .inl (hpe k)⟩⟩
/-! the phases of a job b over nd data sectors -/
/-- the places and the images -/
def BodyAt (b : List ChgM) (m : DiskM) : Prop := (∀ x ∈ placeW b ++ imageW 4 b, stK m x.1.toNat = padS x.2)
structure CleanJ (nd : Nat) (X : Nat → List UInt8) (m : DiskM) : Prop where
  head : stK m 0 = blankS
  none : ∀ k, peK m k = []
  data : ∀ i, i < nd → stK m (100 + i) = X i
/-- the head is as it was, and the data too -/
structure Ph1 (nd : Nat) (was : Nat → List UInt8) (m : DiskM) : Prop where
  head : stK m 0 = blankS
  none0 : peK m 0 = []
  none : ∀ i, peK m (100 + i) = []
  data : ∀ i, i < nd → stK m (100 + i) = was i
/-- the head is pending -/
structure Ph2 (nd : Nat) (b : List ChgM) (was : Nat → List UInt8) (m : DiskM) : Prop where
  head : stK m 0 = blankS
  pend : peK m 0 = headJ b
  none : ∀ k, k ≠ 0 → peK m k = []
  body : BodyAt b m
  data : ∀ i, i < nd → stK m (100 + i) = was i
/-- the head stands: the data are as they were, or as they will be -/
structure Ph3 (nd : Nat) (b : List ChgM) (was now : Nat → List UInt8) (m : DiskM) : Prop where
  head : stK m 0 = headJ b
  none : ∀ k, k < 100 → peK m k = []
  body : BodyAt b m
  data : ∀ i, i < nd → stK m (100 + i) = was i ∨ stK m (100 + i) = now i
  pend : ∀ i, i < nd → peK m (100 + i) = [] ∨ peK m (100 + i) = now i
/-- the head's end is pending -/
structure Ph4 (nd : Nat) (b : List ChgM) (now : Nat → List UInt8) (m : DiskM) : Prop where
  head : stK m 0 = headJ b
  pend : peK m 0 = blankS
  none : ∀ k, k ≠ 0 → peK m k = []
  body : BodyAt b m
  data : ∀ i, i < nd → stK m (100 + i) = now i
/-- a job that is to be done again -/
structure Again (nd : Nat) (b : List ChgM) (was now : Nat → List UInt8) (m : DiskM) : Prop where
  head : stK m 0 = headJ b
  none : ∀ k, peK m k = []
  body : BodyAt b m
  data : ∀ i, i < nd → stK m (100 + i) = was i ∨ stK m (100 + i) = now i
def dataOf (b : List ChgM) : List (Int × List UInt8) := b.map fun c => (c.1, c.2)
/-- the data when a job is done -/
def nowJ (b : List ChgM) (was : Nat → List UInt8) : Nat → List UInt8 := overW (b.map fun c => (c.1, c.2)) was
theorem BodyAt.crash {n : Nat} {m : DiskM} (h : Dsk n m) (keep : List Bool) {b : List ChgM} (hb : BodyAt b m) (hn : ∀ x ∈ placeW b ++ imageW 4 b, peK m x.1.toNat = []) : BodyAt b (crashDk m keep) := fun x hx => by
  obtain ⟨-, -, h3, -⟩ := crash_up h.ok keep
  rcases h3 x.1.toNat with e | ⟨e, -⟩
  · rw [e]; exact hb x hx
  · exact absurd (hn x hx) e
theorem imageW_idx : ∀ (l : List ChgM) (k : Nat) (x : Int × List UInt8), x ∈ imageW k l → (k : Int) ≤ x.1 ∧ x.1 < ((k + l.length : Nat) : Int)
  | [], _, _, h => by cases h
  | c :: l, k, x, h => by
    unfold imageW at h
    rw [List.length_cons]
    rcases List.mem_cons.1 h with rfl | h
    · exact ⟨by simp, by simp only; omega⟩
    · have := imageW_idx l (k + 1) x h; omega
theorem imageW_len : ∀ (l : List ChgM) (k : Nat) (x : Int × List UInt8), (∀ c ∈ l, c.2.length ≤ 64) → x ∈ imageW k l → x.2.length ≤ 64
  | [], _, _, _, h => by cases h
  | c :: l, k, x, hc, h => by
    unfold imageW at h
    rcases List.mem_cons.1 h with rfl | h
    · exact hc c (by simp)
    · exact imageW_len l (k + 1) x (fun c h => hc c (by simp [h])) h
theorem imageW_nodup : ∀ (l : List ChgM) (k : Nat), ((imageW k l).map (·.1.toNat)).Nodup
  | [], _ => List.nodup_nil
  | c :: l, k => by
    unfold imageW
    rw [List.map_cons, List.nodup_cons]
    refine ⟨fun h => ?_, imageW_nodup l (k + 1)⟩
    obtain ⟨x, hx, e⟩ := List.mem_map.1 h
    have := imageW_idx l (k + 1) x hx
    simp at e
    omega
theorem lay_idx {b : List ChgM} (hb : b.length ≤ 96) {x : Int × List UInt8} (hx : x ∈ placeW b ++ imageW 4 b) : 1 ≤ x.1 ∧ x.1 < 100 := by
  rcases List.mem_append.1 hx with h | h
  · unfold placeW at h
    simp only [List.mem_cons, List.not_mem_nil, or_false] at h
    rcases h with rfl | rfl | rfl <;> simp
  · have := imageW_idx b 4 x h; omega
theorem lay_nodup (b : List ChgM) : ((placeW b ++ imageW 4 b).map (·.1.toNat)).Nodup := by
  rw [List.map_append, List.nodup_append]
  refine ⟨by unfold placeW; simp, imageW_nodup b 4, fun a ha c hc e => ?_⟩
  subst e
  obtain ⟨x, hx, e1⟩ := List.mem_map.1 ha
  obtain ⟨y, hy, e2⟩ := List.mem_map.1 hc
  have h1 := imageW_idx b 4 y hy
  unfold placeW at hx
  simp only [List.mem_cons, List.not_mem_nil, or_false] at hx
  rcases hx with rfl | rfl | rfl <;> simp at e1 <;> omega
theorem lay_fit {n : Nat} (hn : 100 ≤ n) {b : List ChgM} (hb : RightJ (n - 100) b) : FitW n (placeW b ++ imageW 4 b) := fun x hx => by
  have h1 := lay_idx hb.most hx
  refine ⟨by omega, by omega, ?_⟩
  rcases List.mem_append.1 hx with h | h
  · unfold placeW at h
    simp only [List.mem_cons, List.not_mem_nil, or_false] at h
    rcases h with rfl | rfl | rfl <;> simp only [List.length_take] <;> omega
  · exact imageW_len b 4 x (fun c hc => (hb.each c hc).2.2) h
theorem data_fit {n : Nat} (hn : 100 ≤ n) {b : List ChgM} (hb : RightJ (n - 100) b) : FitW n (dataW b) := fun x hx => by
  obtain ⟨c, hc, rfl⟩ := List.mem_map.1 hx
  have := hb.each c hc
  exact ⟨by simp only; omega, by simp only; omega, this.2.2⟩
theorem headJ_len (b : List ChgM) : (headJ b).length = 64 := padS_len (by simp [numB_len])
theorem padS_headJ (b : List ChgM) : padS (headJ b) = headJ b := padS_full (headJ_len b)
theorem padS_nil : padS [] = blankS := rfl
theorem blankS_ne : blankS ≠ [] := by decide
theorem headJ_ne (b : List ChgM) : headJ b ≠ [] := fun h => by have := headJ_len b; rw [h] at this; cases this
/-! behind a crash -/
theorem CleanJ.crash {n nd : Nat} {X : Nat → List UInt8} {m : DiskM} (hd : Dsk n m) (h : CleanJ nd X m) (keep : List Bool) : CleanJ nd X (crashDk m keep) := by
  obtain ⟨-, -, h3, h4⟩ := crash_up hd.ok keep
  have hs : ∀ k, stK (crashDk m keep) k = stK m k := fun k => (h3 k).resolve_right (fun hh => hh.1 (h.none k))
  exact ⟨(hs 0).trans h.head, h4, fun i hi => (hs _).trans (h.data i hi)⟩
theorem Ph1.crash {n nd : Nat} {was : Nat → List UInt8} {m : DiskM} (hd : Dsk n m) (h : Ph1 nd was m) (keep : List Bool) : CleanJ nd was (crashDk m keep) := by
  obtain ⟨-, -, h3, h4⟩ := crash_up hd.ok keep
  exact ⟨((h3 0).resolve_right (fun hh => hh.1 h.none0)).trans h.head, h4, fun i hi => ((h3 _).resolve_right (fun hh => hh.1 (h.none i))).trans (h.data i hi)⟩
theorem Ph2.crash {n nd : Nat} {b : List ChgM} {was : Nat → List UInt8} (now : Nat → List UInt8) {m : DiskM} (hb : b.length ≤ 96) (hd : Dsk n m) (h : Ph2 nd b was m) (keep : List Bool) : CleanJ nd was (crashDk m keep) ∨ Again nd b was now (crashDk m keep) := by
  obtain ⟨-, -, h3, h4⟩ := crash_up hd.ok keep
  have hs : ∀ k, k ≠ 0 → stK (crashDk m keep) k = stK m k := fun k hk => (h3 k).resolve_right (fun hh => hh.1 (h.none k hk))
  rcases h3 0 with e | ⟨-, e⟩
  · exact .inl ⟨e.trans h.head, h4, fun i hi => (hs _ (by omega)).trans (h.data i hi)⟩
  · refine .inr ⟨e.trans h.pend, h4, h.body.crash hd keep (fun x hx => h.none _ (by have := lay_idx hb hx; omega)), fun i hi => .inl ((hs _ (by omega)).trans (h.data i hi))⟩
theorem Ph3.crash {n nd : Nat} {b : List ChgM} {was now : Nat → List UInt8} {m : DiskM} (hb : b.length ≤ 96) (hd : Dsk n m) (h : Ph3 nd b was now m) (keep : List Bool) : Again nd b was now (crashDk m keep) := by
  obtain ⟨-, -, h3, h4⟩ := crash_up hd.ok keep
  refine ⟨((h3 0).resolve_right (fun hh => hh.1 (h.none 0 (by decide)))).trans h.head, h4, h.body.crash hd keep (fun x hx => h.none _ (by have := lay_idx hb hx; omega)), fun i hi => ?_⟩
  rcases h3 (100 + i) with e | ⟨e1, e2⟩
  · rw [e]; exact h.data i hi
  · exact .inr (e2.trans ((h.pend i hi).resolve_left e1))
theorem Ph4.crash {n nd : Nat} {b : List ChgM} {now : Nat → List UInt8} (was : Nat → List UInt8) {m : DiskM} (hb : b.length ≤ 96) (hd : Dsk n m) (h : Ph4 nd b now m) (keep : List Bool) : CleanJ nd now (crashDk m keep) ∨ Again nd b was now (crashDk m keep) := by
  obtain ⟨-, -, h3, h4⟩ := crash_up hd.ok keep
  have hs : ∀ k, k ≠ 0 → stK (crashDk m keep) k = stK m k := fun k hk => (h3 k).resolve_right (fun hh => hh.1 (h.none k hk))
  rcases h3 0 with e | ⟨-, e⟩
  · refine .inr ⟨e.trans h.head, h4, h.body.crash hd keep (fun x hx => h.none _ (by have := lay_idx hb hx; omega)), fun i hi => .inr ((hs _ (by omega)).trans (h.data i hi))⟩
  · exact .inl ⟨e.trans h.pend, h4, fun i hi => (hs _ (by omega)).trans (h.data i hi)⟩
/-! a job that is laid, and finished -/
theorem lay_from {n nd : Nat} (hn : n = 100 + nd) {b : List ChgM} (hb : RightJ nd b) {was : Nat → List UInt8} (now : Nat → List UInt8) {m : DiskM} (hd : Dsk n m) (hu : m.down = false) (h : CleanJ nd was m) :
    Dsk n (layM m b).2 ∧ (m.arm = none → (layM m b).1 = 0 ∧ (layM m b).2.arm = none) ∧
    (((layM m b).1 = 0 ∧ (layM m b).2.down = false ∧ Again nd b was now (layM m b).2 ∧ ∀ i, i < nd → stK (layM m b).2 (100 + i) = was i) ∨ ((layM m b).1 = 40 ∧ (Ph1 nd was (layM m b).2 ∨ Ph2 nd b was (layM m b).2))) := by
  have hb' : RightJ (n - 100) b := by rw [show n - 100 = nd by omega]; exact hb
  obtain ⟨w1, w2, w3, w4⟩ := writes_up (placeW b ++ imageW 4 b) hd hu (lay_fit (by omega) hb')
  have hidx : ∀ k, k = 0 ∨ 100 ≤ k → ∀ x ∈ placeW b ++ imageW 4 b, x.1.toNat ≠ k := fun k hk x hx e => by have := lay_idx hb.most hx; omega
  unfold layM andE
  generalize writesM m (placeW b ++ imageW 4 b) = r1 at w1 w2 w3 w4 ⊢
  obtain ⟨e1, m1⟩ := r1
  simp only at w1 w2 w3 w4 ⊢
  rcases w4 with ⟨rfl, hu1, hp1⟩ | ⟨rfl, hp1⟩
  rotate_left
  · rw [if_neg (by decide)]
    have hk : ∀ k, k = 0 ∨ 100 ≤ k → peK m1 k = [] := fun k hk => by
      rcases hp1 k with e | ⟨x, hx, e, -⟩
      · rw [e]; exact h.none k
      · exact absurd e (hidx k hk x hx)
    exact ⟨w1, w3, .inr ⟨rfl, .inl ⟨(w2 0).trans h.head, hk 0 (.inl rfl), fun i => hk _ (.inr (by omega)), fun i hi => (w2 _).trans (h.data i hi)⟩⟩⟩
  rw [if_pos rfl]
  have hk1 : ∀ k, k = 0 ∨ 100 ≤ k → peK m1 k = [] := fun k hk => by rw [hp1 k, overW_out _ _ _ (hidx k hk)]; exact h.none k
  have hf := flush_up w1.ok hu1
  have hfd := w1.flush
  have hfa : m.arm = none → (flushDk m1).2.arm = none := fun ha => (flush_arm (w3 ha).2 hu1).1
  generalize flushDk m1 = r2 at hf hfd hfa ⊢
  obtain ⟨e2, m2⟩ := r2
  simp only at hf hfd hfa ⊢
  rcases hf with ⟨rfl, hu2, hs2, hp2⟩ | ⟨rfl, ha2, hs2, hp2⟩
  rotate_left
  · rw [if_neg (by decide)]
    exact ⟨hfd, fun ha => (by rw [(w3 ha).2] at ha2; cases ha2), .inr ⟨rfl, .inl ⟨(hs2 0).trans ((w2 0).trans h.head), (hp2 0).trans (hk1 0 (.inl rfl)), fun i => (hp2 _).trans (hk1 _ (.inr (by omega))), fun i hi => (hs2 _).trans ((w2 _).trans (h.data i hi))⟩⟩⟩
  rw [if_pos rfl]
  have hh2 : stK m2 0 = blankS := by rw [hs2 0, if_pos (hk1 0 (.inl rfl)), w2 0]; exact h.head
  have hd2 : ∀ i, i < nd → stK m2 (100 + i) = was i := fun i hi => by rw [hs2 _, if_pos (hk1 _ (.inr (by omega))), w2 _]; exact h.data i hi
  have hb2 : BodyAt b m2 := fun x hx => by
    have e := overW_in (placeW b ++ imageW 4 b) (peK m) x hx (lay_nodup b)
    have hl := (lay_fit (n := n) (by omega) hb' x hx).2.2
    rw [hs2 _, hp1 _, e, if_neg (padS_ne hl)]
  have hw := write_up hfd.ok hu2 (i := 0) (by omega) (b := headJ b) (by rw [headJ_len]; exact Nat.le_refl _)
  have hwd := hfd.write 0 (headJ b)
  have hwa : m.arm = none → (writeDk m2 0 (headJ b)).2.arm = none := fun ha => (write_arm 0 (headJ b) (hfa ha) hu2).1
  rw [show ((0 : Nat) : Int) = 0 from rfl] at hw
  generalize writeDk m2 0 (headJ b) = r3 at hw hwd hwa ⊢
  obtain ⟨e3, m3⟩ := r3
  simp only at hw hwd hwa ⊢
  rcases hw with ⟨rfl, hu3, hs3, hp3⟩ | ⟨rfl, ha3, hs3, hp3⟩
  rotate_left
  · rw [if_neg (by decide)]
    exact ⟨hwd, fun ha => (by rw [hfa ha] at ha3; cases ha3), .inr ⟨rfl, .inl ⟨(hs3 0).trans hh2, (hp3 0).trans (hp2 0), fun i => (hp3 _).trans (hp2 _), fun i hi => (hs3 _).trans (hd2 i hi)⟩⟩⟩
  rw [if_pos rfl]
  have p30 : peK m3 0 = headJ b := by rw [hp3 0, if_pos rfl, padS_headJ]
  have p3n : ∀ k, k ≠ 0 → peK m3 k = [] := fun k hk => by rw [hp3 k, if_neg hk]; exact hp2 k
  have hb3 : BodyAt b m3 := fun x hx => (hs3 _).trans (hb2 x hx)
  have hf := flush_up hwd.ok hu3
  have hfd := hwd.flush
  have hfa : m.arm = none → (flushDk m3).2.arm = none := fun ha => (flush_arm (hwa ha) hu3).1
  generalize flushDk m3 = r4 at hf hfd hfa ⊢
  obtain ⟨e4, m4⟩ := r4
  simp only at hf hfd hfa ⊢
  rcases hf with ⟨rfl, hu4, hs4, hp4⟩ | ⟨rfl, ha4, hs4, hp4⟩
  rotate_left
  · exact ⟨hfd, fun ha => (by rw [hwa ha] at ha4; cases ha4), .inr ⟨rfl, .inr ⟨(hs4 0).trans ((hs3 0).trans hh2), (hp4 0).trans p30, fun k hk => (hp4 k).trans (p3n k hk), fun x hx => (hs4 _).trans (hb3 x hx), fun i hi => (hs4 _).trans ((hs3 _).trans (hd2 i hi))⟩⟩⟩
  have hd4 : ∀ i, i < nd → stK m4 (100 + i) = was i := fun i hi => by rw [hs4 _, if_pos (p3n _ (by omega)), hs3 _]; exact hd2 i hi
  refine ⟨hfd, fun ha => ⟨rfl, hfa ha⟩, .inl ⟨rfl, hu4, ⟨?_, hp4, fun x hx => ?_, fun i hi => .inl (hd4 i hi)⟩, hd4⟩⟩
  · rw [hs4 0, p30, if_neg (headJ_ne b)]
  · rw [hs4 _, if_pos (p3n _ (by have := lay_idx hb.most hx; omega))]; exact hb3 x hx
theorem data_nodup {nd : Nat} {b : List ChgM} (hb : RightJ nd b) : ((dataW b).map (·.1.toNat)).Nodup := by
  have hall : ∀ l : List ChgM, (∀ c ∈ l, 0 ≤ c.1) → (l.map (·.1)).Nodup → ((dataW l).map (·.1.toNat)).Nodup := by
    intro l
    induction l with
    | nil => intro _ _; exact List.nodup_nil
    | cons c l ih =>
      intro h hd
      rw [List.map_cons, List.nodup_cons] at hd
      show (((100 + c.1, c.2) :: dataW l).map (·.1.toNat)).Nodup
      rw [List.map_cons, List.nodup_cons]
      refine ⟨fun hm => ?_, ih (fun x hx => h x (by simp [hx])) hd.2⟩
      obtain ⟨x, hx, e⟩ := List.mem_map.1 hm
      obtain ⟨y, hy, rfl⟩ := List.mem_map.1 hx
      have h1 := h c (by simp)
      have h2 := h y (by simp [hy])
      simp only at e
      exact hd.1 (List.mem_map.2 ⟨y, hy, by omega⟩)
  exact hall b (fun c hc => (hb.each c hc).1) hb.once
theorem over_data : ∀ (b : List ChgM) (f : Nat → List UInt8) (g : Nat → List UInt8) (i : Nat), (∀ c ∈ b, 0 ≤ c.1) → (f (100 + i) = g i) → overW (dataW b) f (100 + i) = nowJ b g i
  | [], f, g, i, _, h => h
  | c :: b, f, g, i, hc, h => by
    have h0 := hc c (by simp)
    show overW (dataW b) _ (100 + i) = overW (b.map fun c => (c.1, c.2)) _ i
    refine over_data b _ _ i (fun x hx => hc x (by simp [hx])) ?_
    simp only
    by_cases e : i = c.1.toNat
    · rw [if_pos (by omega), if_pos e]
    · rw [if_neg (by omega), if_neg e, h]
theorem nowJ_in {nd : Nat} {b : List ChgM} (hb : RightJ nd b) {was : Nat → List UInt8} {c : ChgM} (hc : c ∈ b) : nowJ b was c.1.toNat = padS c.2 := by
  have hm : (c.1, c.2) ∈ b.map (fun c => (c.1, c.2)) := List.mem_map.2 ⟨c, hc, rfl⟩
  refine overW_in _ was (c.1, c.2) hm ?_
  have hall : ∀ l : List ChgM, (∀ c ∈ l, 0 ≤ c.1) → (l.map (·.1)).Nodup → ((l.map fun c => (c.1, c.2)).map (·.1.toNat)).Nodup := by
    intro l
    induction l with
    | nil => intro _ _; exact List.nodup_nil
    | cons c l ih =>
      intro h hd
      rw [List.map_cons, List.nodup_cons] at hd
      rw [List.map_cons, List.map_cons, List.nodup_cons]
      refine ⟨fun hm => ?_, ih (fun x hx => h x (by simp [hx])) hd.2⟩
      obtain ⟨x, hx, e⟩ := List.mem_map.1 hm
      obtain ⟨y, hy, rfl⟩ := List.mem_map.1 hx
      have h1 := h c (by simp)
      have h2 := h y (by simp [hy])
      simp only at e
      exact hd.1 (List.mem_map.2 ⟨y, hy, by omega⟩)
  exact hall b (fun c hc => (hb.each c hc).1) hb.once
theorem nowJ_out {b : List ChgM} {was : Nat → List UInt8} {i : Nat} (h : ∀ c ∈ b, c.1.toNat ≠ i) : nowJ b was i = was i := by
  refine overW_out _ was i (fun x hx => ?_)
  obtain ⟨c, hc, rfl⟩ := List.mem_map.1 hx
  exact h c hc
theorem finish_from {n nd : Nat} (hn : n = 100 + nd) {b : List ChgM} (hb : RightJ nd b) {was : Nat → List UInt8} {m : DiskM} (hd : Dsk n m) (hu : m.down = false) (h : Again nd b was (nowJ b was) m) :
    Dsk n (finishM m b).2 ∧ (m.arm = none → (finishM m b).1 = 0 ∧ (finishM m b).2.arm = none) ∧
    (((finishM m b).1 = 0 ∧ (finishM m b).2.down = false ∧ CleanJ nd (nowJ b was) (finishM m b).2) ∨ ((finishM m b).1 = 40 ∧ (Ph3 nd b was (nowJ b was) (finishM m b).2 ∨ Ph4 nd b (nowJ b was) (finishM m b).2))) := by
  have hb' : RightJ (n - 100) b := by rw [show n - 100 = nd by omega]; exact hb
  obtain ⟨w1, w2, w3, w4⟩ := writes_up (dataW b) hd hu (data_fit (by omega) hb')
  have hidx : ∀ k, k < 100 → ∀ x ∈ dataW b, x.1.toNat ≠ k := fun k hk x hx e => by
    obtain ⟨c, hc, rfl⟩ := List.mem_map.1 hx
    have := hb.each c hc
    simp only at e
    omega
  have hin : ∀ i, ∀ x ∈ dataW b, x.1.toNat = 100 + i → padS x.2 = nowJ b was i := fun i x hx e => by
    obtain ⟨c, hc, rfl⟩ := List.mem_map.1 hx
    have := hb.each c hc
    simp only at e
    have e2 := nowJ_in hb (was := was) hc
    rw [show c.1.toNat = i by omega] at e2
    exact e2.symm
  unfold finishM andE
  generalize writesM m (dataW b) = r1 at w1 w2 w3 w4 ⊢
  obtain ⟨e1, m1⟩ := r1
  simp only at w1 w2 w3 w4 ⊢
  rcases w4 with ⟨rfl, hu1, hp1⟩ | ⟨rfl, hp1⟩
  rotate_left
  · rw [if_neg (by decide)]
    refine ⟨w1, w3, .inr ⟨rfl, .inl ⟨(w2 0).trans h.head, fun k hk => ?_, fun x hx => (w2 _).trans (h.body x hx), fun i hi => by rw [w2 _]; exact h.data i hi, fun i hi => ?_⟩⟩⟩
    · rcases hp1 k with e | ⟨x, hx, e, -⟩
      · rw [e]; exact h.none k
      · exact absurd e (hidx k hk x hx)
    · rcases hp1 (100 + i) with e | ⟨x, hx, e, e2⟩
      · exact .inl (by rw [e]; exact h.none _)
      · exact .inr (e2.trans (hin i x hx e))
  rw [if_pos rfl]
  have hk1 : ∀ k, k < 100 → peK m1 k = [] := fun k hk => by rw [hp1 k, overW_out _ _ _ (hidx k hk)]; exact h.none k
  have hq1 : ∀ i, i < nd → peK m1 (100 + i) = [] ∨ peK m1 (100 + i) = nowJ b was i := fun i hi => by
    rw [hp1 _]
    rcases overW_or (dataW b) (peK m) (100 + i) with e | ⟨x, hx, e, e2⟩
    · exact .inl (e.trans (h.none _))
    · exact .inr (e2.trans (hin i x hx e))
  have hf := flush_up w1.ok hu1
  have hfd := w1.flush
  have hfa : m.arm = none → (flushDk m1).2.arm = none := fun ha => (flush_arm (w3 ha).2 hu1).1
  generalize flushDk m1 = r2 at hf hfd hfa ⊢
  obtain ⟨e2, m2⟩ := r2
  simp only at hf hfd hfa ⊢
  rcases hf with ⟨rfl, hu2, hs2, hp2⟩ | ⟨rfl, ha2, hs2, hp2⟩
  rotate_left
  · rw [if_neg (by decide)]
    exact ⟨hfd, fun ha => (by rw [(w3 ha).2] at ha2; cases ha2), .inr ⟨rfl, .inl ⟨(hs2 0).trans ((w2 0).trans h.head), fun k hk => (hp2 k).trans (hk1 k hk), fun x hx => (hs2 _).trans ((w2 _).trans (h.body x hx)), fun i hi => by rw [hs2 _, w2 _]; exact h.data i hi, fun i hi => by rw [hp2 _]; exact hq1 i hi⟩⟩⟩
  rw [if_pos rfl]
  have hh2 : stK m2 0 = headJ b := by rw [hs2 0, if_pos (hk1 0 (by decide)), w2 0]; exact h.head
  have hb2 : BodyAt b m2 := fun x hx => by rw [hs2 _, if_pos (hk1 _ (by have := lay_idx hb.most hx; omega)), w2 _]; exact h.body x hx
  have hd2 : ∀ i, i < nd → stK m2 (100 + i) = nowJ b was i := fun i hi => by
    by_cases hc : ∃ c ∈ b, c.1.toNat = i
    · obtain ⟨c, hc, e⟩ := hc
      have hbc := hb.each c hc
      have hx : ((100 + c.1, c.2) : Int × List UInt8) ∈ dataW b := List.mem_map.2 ⟨c, hc, rfl⟩
      have e3 := overW_in (dataW b) (peK m) (100 + c.1, c.2) hx (data_nodup hb)
      simp only at e3
      rw [show (100 + c.1).toNat = 100 + i by omega] at e3
      rw [hs2 _, hp1 _, e3, if_neg (padS_ne hbc.2.2), ← nowJ_in hb (was := was) hc, e]
    · have ho : ∀ c ∈ b, c.1.toNat ≠ i := fun c h e => hc ⟨c, h, e⟩
      have e3 : peK m1 (100 + i) = [] := by
        rw [hp1 _, overW_out _ _ _ (fun x hx e => ?_)]
        · exact h.none _
        · obtain ⟨c, hcb, rfl⟩ := List.mem_map.1 hx
          have := hb.each c hcb
          simp only at e
          exact ho c hcb (by omega)
      rw [hs2 _, if_pos e3, w2 _, nowJ_out ho]
      rcases h.data i hi with e | e
      · exact e
      · rw [e, nowJ_out ho]
  have hw := write_up hfd.ok hu2 (i := 0) (by omega) (b := []) (by simp)
  have hwd := hfd.write 0 []
  have hwa : m.arm = none → (writeDk m2 0 []).2.arm = none := fun ha => (write_arm 0 [] (hfa ha) hu2).1
  rw [show ((0 : Nat) : Int) = 0 from rfl] at hw
  generalize writeDk m2 0 [] = r3 at hw hwd hwa ⊢
  obtain ⟨e3, m3⟩ := r3
  simp only at hw hwd hwa ⊢
  rcases hw with ⟨rfl, hu3, hs3, hp3⟩ | ⟨rfl, ha3, hs3, hp3⟩
  rotate_left
  · rw [if_neg (by decide)]
    exact ⟨hwd, fun ha => (by rw [hfa ha] at ha3; cases ha3), .inr ⟨rfl, .inl ⟨(hs3 0).trans hh2, fun k hk => (hp3 k).trans (hp2 k), fun x hx => (hs3 _).trans (hb2 x hx), fun i hi => .inr ((hs3 _).trans (hd2 i hi)), fun i hi => .inl ((hp3 _).trans (hp2 _))⟩⟩⟩
  rw [if_pos rfl]
  have p30 : peK m3 0 = blankS := by rw [hp3 0, if_pos rfl, padS_nil]
  have p3n : ∀ k, k ≠ 0 → peK m3 k = [] := fun k hk => by rw [hp3 k, if_neg hk]; exact hp2 k
  have hb3 : BodyAt b m3 := fun x hx => (hs3 _).trans (hb2 x hx)
  have hf := flush_up hwd.ok hu3
  have hfd := hwd.flush
  have hfa : m.arm = none → (flushDk m3).2.arm = none := fun ha => (flush_arm (hwa ha) hu3).1
  generalize flushDk m3 = r4 at hf hfd hfa ⊢
  obtain ⟨e4, m4⟩ := r4
  simp only at hf hfd hfa ⊢
  rcases hf with ⟨rfl, hu4, hs4, hp4⟩ | ⟨rfl, ha4, hs4, hp4⟩
  rotate_left
  · exact ⟨hfd, fun ha => (by rw [hwa ha] at ha4; cases ha4), .inr ⟨rfl, .inr ⟨(hs4 0).trans ((hs3 0).trans hh2), (hp4 0).trans p30, fun k hk => (hp4 k).trans (p3n k hk), fun x hx => (hs4 _).trans (hb3 x hx), fun i hi => (hs4 _).trans ((hs3 _).trans (hd2 i hi))⟩⟩⟩
  refine ⟨hfd, fun ha => ⟨rfl, hfa ha⟩, .inl ⟨rfl, hu4, ⟨?_, hp4, fun i hi => ?_⟩⟩⟩
  · rw [hs4 0, p30, if_neg blankS_ne]
  · rw [hs4 _, if_pos (p3n _ (by omega)), hs3 _]; exact hd2 i hi
end Go.Pantry
