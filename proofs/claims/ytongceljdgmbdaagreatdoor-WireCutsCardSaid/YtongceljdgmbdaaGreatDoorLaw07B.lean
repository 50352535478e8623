/-
  The statement WireCuts: a reader that is fed in pieces, one that has it all, and the list of what came: what stays in place at every step.
-/
import Derived.Test.YtongceljdgmbdaaGreatDoorLaw07A
import Derived.Test.YtongceljdgmbdaaGreatDoorLaw07M
import Derived.Test.YtongceljdgmbdaaGreatDoorPureCuts
namespace Go.Proofs.YtongceljdgmbdaaGreatDoor
open Go.RowKit Go.Pantry

/-- append(list, x), the list nil or the call's own, x of five cells that were laid last. -/
theorem wpList_append_five {P : Program} {ops : Array Oper} {rest : List Oper} {o : Oper} {a : Act} {Q : Exit → Act → World → Prop} (w : World) (hgd : o.guard = none) (s x : Operand) (t : TypeId)
    (ho : o.op = .call { callee := .builtin .append, args := #[s, x], argTypes := #[t, t] })
    (B : Nat) (e : TypeId) {z : Value} {bytes : Nat} (ht : P.underlying t = some (.slice e)) (hi : (P.info? e).map (fun i => (i.zero, i.size, i.bytes)) = some (some z, 5, bytes)) (hzs : z.cells.size = 5) (hby : bytes ≤ 4096)
    {v : Value} {n : Nat} {xs : List Value} (hs : a.eval s = v) (hown : w.ownsRow B e 5 v n xs) (c : List Value) (hc : c.length = 5) (h1 : ∀ u ∈ c, u.oneCell' = true)
    {g : Nat} (hx : a.eval x = .slice (some ⟨g, 0, none⟩) 1 1) (hgs : g = w.heap.size) (hn : n < 4294967296) (hB : B ≤ w.heap.size)
    (h : ∀ v' w', w'.ownsRow B e 5 v' (n + 1) (xs ++ c) → w.grownBy w' v.ownBlock → In (fun k => v.ownBlock = some k ∨ w.heap.size ≤ k) v' → wpList P ops Q rest (a.put o.dst v') w') :
    wpList P ops Q (o :: rest) a (w.alloc (.cells c.toArray e)) := by
  subst hgs
  obtain ⟨i0, g1, g2, g3, g4⟩ := info_parts hi
  have hnews : ∀ (j : Nat) u, c[j]? = some u → (w.alloc (.cells c.toArray e)).cell? ((⟨w.heap.size, 0, none⟩ : Addr).add j) = some u := fun j u hj => by
    have e0 : (⟨w.heap.size, 0, none⟩ : Addr).add j = ⟨w.heap.size, j, none⟩ := by unfold Addr.add; split <;> simp_all
    rw [e0, World.cell?_alloc_at _ _ _ _ rfl]
    simpa using hj
  have h63 : n + 1 ≤ maxLen := by unfold maxLen; omega
  have hbz : (n + 1) * bytes ≤ 140737488355328 :=
    calc (n + 1) * bytes ≤ 4294967296 * 4096 := Nat.mul_le_mul (by omega) hby
      _ ≤ 140737488355328 := by decide
  obtain ⟨v', w', hrun, h2, h3, -⟩ := run_append_own (P := P) (w.alloc (.cells c.toArray e)) B t o.type e i0 z 5 bytes ht g1 g2 g3 g4 hzs (by decide) v n xs (hown.alloc _) ⟨w.heap.size, 0, none⟩ 1 1 c (by omega) hnews h1 h63 hbz (by simp; omega)
  have h4 := append_where ht g1 g2 g3 g4 (hown.alloc _) ⟨w.heap.size, 0, none⟩ 1 1 c (by omega) hnews h1 h63 hbz hrun
  refine wpList_plain hgd fun K hK => ?_
  unfold Oper.wp execOp
  simp only [ho, resolve, invoke, builtin, Sem.run_bind, Sem.run_pure, Result.andThen_ok, List.map_toArray, List.map_cons, List.map_nil, hs, hx, hrun]
  have hg' : w.grownBy w' v.ownBlock := ⟨h3.os, h3.tape, h3.output, Nat.le_trans (by simp) h3.size, fun k hk hne => (h3.block k (by simp; omega) hne).trans (Below.heap_alloc _ _ _ hk)⟩
  exact hK _ _ (h v' w' h2 hg' (h4.mono fun k hk => hk.imp id fun hk => Nat.le_trans (by simp) hk))

/-- a message that was kept, and where its fields and its bytes lie -/
structure Msg where
  h : Hd
  b : List UInt8
  vl : Value
  vb : Value
def Msg.x (m : Msg) : Hd × List UInt8 := (m.h, m.b)
def Msg.cells (m : Msg) : List Value := [strV m.h.first, strV m.h.second, .int .i64 (m.h.minor : Int), m.vl, m.vb]
def cellsM (l : List Msg) : List Value := l.flatMap Msg.cells
theorem cellsM_snoc (l : List Msg) (m : Msg) : cellsM (l ++ [m]) = cellsM l ++ m.cells := by simp [cellsM]
theorem cellsM_at : ∀ (l : List Msg) (k : Nat) (m : Msg), l[k]? = some m → ∀ j, j < 5 → (cellsM l)[5 * k + j]? = m.cells[j]?
  | [], _, _, h, _, _ => by simp at h
  | a :: l, 0, m, h, j, hj => by
    simp only [List.getElem?_cons_zero, Option.some.injEq] at h
    subst h
    show (a.cells ++ cellsM l)[5 * 0 + j]? = _
    rw [Nat.mul_zero, Nat.zero_add, List.getElem?_append_left (by show j < 5; exact hj)]
  | a :: l, k + 1, m, h, j, hj => by
    rw [List.getElem?_cons_succ] at h
    show (a.cells ++ cellsM l)[5 * (k + 1) + j]? = _
    have e5 : a.cells.length = 5 := rfl
    rw [List.getElem?_append_right (by omega), e5, show 5 * (k + 1) + j - 5 = 5 * k + j by omega]
    exact cellsM_at l k m h j hj
/-- what lies in a world, clear of the blocks X -/
def Kp (w : World) (X : Nat → Prop) (m : Msg) : Prop :=
  m.h.flds.length < 1000000 ∧ Reads2 w m.vl m.h.flds ∧ Bytes w m.vb m.b ∧ In (fun k => ¬ X k ∧ k < w.heap.size) m.vl ∧ In (fun k => ¬ X k ∧ k < w.heap.size) m.vb
theorem Kp.step {w w' : World} {X Y Z : Nat → Prop} {m : Msg} (h : Kp w X m) (hk : Kept Y w w') (hY : ∀ k, k < w.heap.size → Y k → X k) (hZ : ∀ k, k < w.heap.size → Z k → X k) : Kp w' Z m := by
  obtain ⟨h0, h1, h2, h3, h4⟩ := h
  have hs := hk.size
  exact ⟨h0, reads2_kept h1 hk (h3.mono fun k hk e => hk.1 (hY k hk.2 e)), bytes_kept h2 hk (h4.mono fun k hk e => hk.1 (hY k hk.2 e)),
    h3.mono fun k hk => ⟨fun e => hk.1 (hZ k hk.2 e), by omega⟩, h4.mono fun k hk => ⟨fun e => hk.1 (hZ k hk.2 e), by omega⟩⟩
/-- the blocks that the statement writes -/
def Xc (gr : Nat) (vr : Value) (gs : Nat) (vs va : Value) (k : Nat) : Prop := Fp gr vr k ∨ Fp gs vs k ∨ va.ownBlock = some k
structure Cuts (w0 w : World) (gr : Nat) (vr : Value) (rr : Rd) (gs : Nat) (vs : Value) (rs : Rd) (va : Value) (M : List Msg) (vn : Value) (ns : List Int) : Prop where
  r : Rdr w0 w gr vr rr
  s : Rdr w0 w gs vs rs
  a : w.ownsRow w0.heap.size 42 5 va M.length (cellsM M)
  kp : ∀ m ∈ M, Kp w (Xc gr vr gs vs va) m
  n : Reads w vn (ns.map (Value.int .i64))
  nIn : In (fun k => ¬ Xc gr vr gs vs va k ∧ k < w.heap.size) vn
  rs : ∀ k, Fp gr vr k → ¬ Fp gs vs k
  ra : ∀ k, va.ownBlock = some k → ¬ Fp gr vr k
  sa : ∀ k, va.ownBlock = some k → ¬ Fp gs vs k
section
variable {w0 w w' : World} {gr : Nat} {vr : Value} {rr : Rd} {gs : Nat} {vs : Value} {rs : Rd} {va : Value} {M : List Msg} {vn : Value} {ns : List Int}
theorem Cuts.aLt (h : Cuts w0 w gr vr rr gs vs rs va M vn ns) {k : Nat} (hk : va.ownBlock = some k) : w0.heap.size ≤ k ∧ k < w.heap.size := h.a.lt k hk
/-- worlds that grew, and nothing else -/
theorem Cuts.then (h : Cuts w0 w gr vr rr gs vs rs va M vn ns) (hb : Below w.heap.size w w') : Cuts w0 w' gr vr rr gs vs rs va M vn ns := by
  have hk := Kept.of_below (X := fun _ => False) hb
  exact ⟨h.r.then hb, h.s.then hb, ownsRow_kept h.a hk (fun _ _ h => h), fun m hm => (h.kp m hm).step hk (fun _ _ h => h.elim) (fun _ _ h => h),
    reads_kept h.n hk (fun _ _ h => h), h.nIn.mono fun k hk => ⟨hk.1, by have := hb.size; omega⟩, h.rs, h.ra, h.sa⟩
/-- the reader that is fed in pieces went on -/
theorem Cuts.stepR (h : Cuts w0 w gr vr rr gs vs rs va M vn ns) {vr' : Value} {rr' : Rd} (hr : Rdr w0 w' gr vr' rr') (hk : Kept (Fp gr vr) w w') (hi : In (fun k => vr.ownBlock = some k ∨ w.heap.size ≤ k) vr') :
    Cuts w0 w' gr vr' rr' gs vs rs va M vn ns := by
  have hx : ∀ k, k < w.heap.size → Fp gr vr' k → Fp gr vr k := fun k hk e => by
    rcases e with e | e
    · exact .inl e
    · rcases hi k e with e | e
      · exact .inr e
      · omega
  have hX : ∀ k, k < w.heap.size → Xc gr vr' gs vs va k → Xc gr vr gs vs va k := fun k hk e => e.imp (hx k hk) id
  have hsl : ∀ k, Fp gs vs k → k < w.heap.size := fun k hk => Fp.lt h.s.rd hk
  exact ⟨hr, h.s.kept hk (fun k hk e => h.rs k e hk) (fun k hk => h.r.lo k hk), ownsRow_kept h.a hk (fun k hk e => h.ra k hk e), fun m hm => (h.kp m hm).step hk (fun k _ e => .inl e) hX,
    reads_kept h.n hk (h.nIn.mono fun k hk e => hk.1 (.inl e)), h.nIn.mono fun k hk2 => ⟨fun e => hk2.1 (hX k hk2.2 e), by have := hk.size; omega⟩,
    fun k e e2 => h.rs k (hx k (hsl k e2) e) e2, fun k e e2 => h.ra k e (hx k (h.aLt e).2 e2), h.sa⟩
/-- the reader that has it all went on -/
theorem Cuts.stepS (h : Cuts w0 w gr vr rr gs vs rs va M vn ns) {vs' : Value} {rs' : Rd} (hr : Rdr w0 w' gs vs' rs') (hk : Kept (Fp gs vs) w w') (hi : In (fun k => vs.ownBlock = some k) vs') :
    Cuts w0 w' gr vr rr gs vs' rs' va M vn ns := by
  have hx : ∀ k, Fp gs vs' k → Fp gs vs k := fun k e => e.imp id (hi k)
  have hX : ∀ k, k < w.heap.size → Xc gr vr gs vs' va k → Xc gr vr gs vs va k := fun k _ e => e.imp id fun e => e.imp (hx k) id
  exact ⟨h.r.kept hk (fun k hk e => h.rs k hk e) (fun k hk => h.s.lo k hk), hr, ownsRow_kept h.a hk (fun k hk e => h.sa k hk e), fun m hm => (h.kp m hm).step hk (fun k _ e => .inr (.inl e)) hX,
    reads_kept h.n hk (h.nIn.mono fun k hk e => hk.1 (.inr (.inl e))), h.nIn.mono fun k hk2 => ⟨fun e => hk2.1 (hX k hk2.2 e), by have := hk.size; omega⟩,
    fun k e e2 => h.rs k e (hx k e2), h.ra, fun k e e2 => h.sa k e (hx k e2)⟩
/-- a message more in the list; it lies in w, clear of what is written -/
theorem Cuts.more (h : Cuts w0 w gr vr rr gs vs rs va M vn ns) {va' : Value} {m : Msg} (ha : w'.ownsRow w0.heap.size 42 5 va' (M.length + 1) (cellsM M ++ m.cells)) (hg : w.grownBy w' va.ownBlock)
    (hi : In (fun k => va.ownBlock = some k ∨ w.heap.size ≤ k) va') (hm : Kp w (Xc gr vr gs vs va) m) : Cuts w0 w' gr vr rr gs vs rs va' (M ++ [m]) vn ns := by
  have hk : Kept (fun k => va.ownBlock = some k) w w' := (Kept.refl _ w).grown hg (fun k hk _ => hk)
  have hx : ∀ k, k < w.heap.size → va'.ownBlock = some k → va.ownBlock = some k := fun k hk e => by
    rcases hi k e with e | e
    · exact e
    · omega
  have hX : ∀ k, k < w.heap.size → Xc gr vr gs vs va' k → Xc gr vr gs vs va k := fun k hk e => e.imp id fun e => e.imp id (hx k hk)
  have hlr : ∀ k, Fp gr vr k → k < w.heap.size := fun k hk => Fp.lt h.r.rd hk
  have hls : ∀ k, Fp gs vs k → k < w.heap.size := fun k hk => Fp.lt h.s.rd hk
  refine ⟨h.r.kept hk (fun k hk e => h.ra k e hk) (fun k hk => (h.aLt hk).1), h.s.kept hk (fun k hk e => h.sa k e hk) (fun k hk => (h.aLt hk).1), ?_, fun x hx => ?_,
    reads_kept h.n hk (h.nIn.mono fun k hk e => hk.1 (.inr (.inr e))), h.nIn.mono fun k hk2 => ⟨fun e => hk2.1 (hX k hk2.2 e), by have := hk.size; omega⟩,
    h.rs, fun k e e2 => h.ra k (hx k (hlr k e2) e) e2, fun k e e2 => h.sa k (hx k (hls k e2) e) e2⟩
  · rw [cellsM_snoc, List.length_append]; exact ha
  · rcases List.mem_append.1 hx with hx | hx
    · exact (h.kp x hx).step hk (fun k _ e => .inr (.inr e)) hX
    · rw [List.mem_singleton.1 hx]; exact hm.step hk (fun k _ e => .inr (.inr e)) hX
end
/-- what a message's taking made, clear of all that was -/
theorem kp_new {w' : World} {B : Nat} {X : Nat → Prop} {h : Hd} {b : List UInt8} {vl vb : Value} (hf : h.flds.length < 1000000) (hl : w'.ownsRow B 104 2 vl h.flds.length (fldCells h.flds)) (hb : w'.ownsRow B 5 1 vb b.length (b.map byteV)) (hX : ∀ k, B ≤ k → ¬ X k) : Kp w' X ⟨h, b, vl, vb⟩ :=
  ⟨hf, hl.reads2.2, ownsRow_bytes hb, (ownsRow_in hl).mono fun k hk => ⟨hX k hk.1, hk.2⟩, (ownsRow_in hb).mono fun k hk => ⟨hX k hk.1, hk.2⟩⟩
end Go.Proofs.YtongceljdgmbdaaGreatDoor
