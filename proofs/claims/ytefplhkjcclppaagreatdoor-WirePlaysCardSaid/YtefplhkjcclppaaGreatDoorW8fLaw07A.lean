/-
  The walks of the statements of layer 7: a reader of the call's own; anchor.
-/
import Derived.Test.YtefplhkjcclppaaGreatDoorW8f11
import Derived.Lib.SlBytesConst

namespace Go.Proofs.YtefplhkjcclppaaGreatDoor
open Go.RowKit Go.Pantry

theorem alloc_size (w : World) (o : Obj) : (w.alloc o).heap.size = w.heap.size + 1 := by simp
/-- a reader that the call made, since the world w0 -/
structure Rdr (w0 w : World) (g : Nat) (v : Value) (s : Rd) : Prop where
  rd : RdAt w g v s
  lo : ∀ k, Fp g v k → w0.heap.size ≤ k
  bl : Below w0.heap.size w0 w
theorem Rdr.step {w0 w w' : World} {g : Nat} {v v' : Value} {s s' : Rd} (h : Rdr w0 w g v s) (hr : RdAt w' g v' s') (hk : Kept (Fp g v) w w') (hi : In (fun k => v.ownBlock = some k ∨ w.heap.size ≤ k) v') : Rdr w0 w' g v' s' := by
  refine ⟨hr, fun k hk' => ?_, h.bl.trans (hk.below (fun k hk _ => h.lo k hk) h.bl.size)⟩
  rcases hk' with rfl | hk'
  · exact h.lo _ (.inl rfl)
  · rcases hi k hk' with h1 | h1
    · exact h.lo _ (.inr h1)
    · have := h.bl.size; omega
theorem Rdr.then {w0 w w' : World} {g : Nat} {v : Value} {s : Rd} (h : Rdr w0 w g v s) (hb : Below w.heap.size w w') : Rdr w0 w' g v s :=
  ⟨h.rd.below hb, h.lo, h.bl.trans (hb.mono h.bl.size)⟩
theorem Rdr.kept {w0 w w' : World} {g : Nat} {v : Value} {s : Rd} (h : Rdr w0 w g v s) {X : Nat → Prop} (hk : Kept X w w') (hx : ∀ k, Fp g v k → ¬ X k) (hX : ∀ k, X k → w0.heap.size ≤ k) : Rdr w0 w' g v s :=
  ⟨h.rd.kept hk hx, h.lo, h.bl.trans (hk.below (fun k hk _ => hX k hk) h.bl.size)⟩
theorem rdr_new (w0 w : World) (hb : Below w0.heap.size w0 w) : Rdr w0 (w.alloc (.cells (rdRow (.slice none 0 0) false 0) 63)) w.heap.size (.slice none 0 0) ⟨[], false, 0⟩ := by
  refine ⟨rdAt_new w, fun k hk => ?_, hb.alloc hb.size _⟩
  rcases hk with rfl | hk
  · exact hb.size
  · cases hk
/-- what Feed leaves -/
def FedR (w0 : World) (g : Nat) (v : Value) (x : Nat × Rd) (w : World) (e : Ending) (w' : World) : Prop :=
  ∃ v', e = .returned (.int .i64 (x.1 : Int)) ∧ Rdr w0 w' g v' x.2 ∧ Kept (Fp g v) w w' ∧ In (fun k => v.ownBlock = some k ∨ w.heap.size ≤ k) v'
theorem feedR_any {w0 w : World} {g : Nat} {v : Value} {s : Rd} (h : Rdr w0 w g v s) (vb : Value) (b : List UInt8) (hb : Reads w vb (b.map byteV)) (hl : s.came.length ≤ 8192) (hbl : b.length ≤ 9223372036854775807) :
    Calls Tryz.prog 6 #[.pointer (some ⟨g, 0, none⟩), vb] w fun e w' => FedR w0 g v (feedX s b) w e w' :=
  (feed_any g v vb s b w h.rd hb hl hbl).mono fun _e _w' ⟨v', he, hr, hk, hi⟩ => ⟨v', he, h.step hr hk hi, hk, hi⟩
theorem leftR_any {w0 w : World} {g : Nat} {v : Value} {s : Rd} (h : Rdr w0 w g v s) :
    Calls Tryz.prog 16 #[.pointer (some ⟨g, 0, none⟩)] w fun e w' => e = .returned (.int .i64 (s.came.length : Int)) ∧ w = w' := left_any g v s w h.rd
theorem closeR_any {w0 w : World} {g : Nat} {v : Value} {s : Rd} (h : Rdr w0 w g v s) :
    Calls Tryz.prog 15 #[.pointer (some ⟨g, 0, none⟩)] w fun e w' => (∃ u, e = .returned u) ∧ Rdr w0 w' g v ⟨s.came, true, s.wrong⟩ ∧ Kept (Fp g v) w w' :=
  (close_any g v s w h.rd).mono fun _e _w' ⟨he, hr, hk⟩ => ⟨he, h.step hr hk (fun _k hk => .inl hk), hk⟩
/-- what a message's taking tells and leaves -/
def MsgR (cells : Hd → Value → Value → Array Value) (zero : Array Value) (w0 : World) (g : Nat) (v : Value) (w : World) (x : Except Nat (Hd × List UInt8) × Rd) (e : Ending) (w' : World) : Prop :=
  (match x.1 with
    | .error k => k ≠ 0 ∧ e = .returned (.tuple #[.agg zero, .int .i64 (k : Int)])
    | .ok (h, b) => ∃ vl vb, e = .returned (.tuple #[.agg (cells h vl vb), .int .i64 0]) ∧ w'.ownsRow w.heap.size 110 2 vl h.flds.length (fldCells h.flds) ∧ w'.ownsRow w.heap.size 5 1 vb b.length (b.map byteV)) ∧
  ∃ v', Rdr w0 w' g v' x.2 ∧ Kept (Fp g v) w w' ∧ In (fun k => v.ownBlock = some k) v'
theorem queryR_any {w0 w : World} {g : Nat} {v : Value} {s : Rd} (h : Rdr w0 w g v s) (hm : MaxOk w0) (hl : s.came.length ≤ 8192) :
    Calls Tryz.prog 8 #[.pointer (some ⟨g, 0, none⟩)] w fun e w' => MsgR qryCells qryZero w0 g v w (queryX s) e w' :=
  (query_any g v s w h.rd (hm.below h.bl) hl).mono fun _e _w' ⟨hx, v', hr, hk, hi⟩ => ⟨hx, v', h.step hr hk (hi.mono fun _k hk => .inl hk), hk, hi⟩
theorem replyR_any {w0 w : World} {g : Nat} {v : Value} {s : Rd} (h : Rdr w0 w g v s) (mt : List UInt8) (hm : MaxOk w0) (hl : s.came.length ≤ 8192) :
    Calls Tryz.prog 12 #[.pointer (some ⟨g, 0, none⟩), strV mt] w fun e w' => MsgR rplCells rplZero w0 g v w (replyX (mt == [72, 69, 65, 68]) (s.came.length + 1) s) e w' :=
  (reply_any g v s mt w0 w h.rd hm h.bl h.lo hl).mono fun _e _w' ⟨hx, v', hr, hk, hi⟩ => ⟨hx, v', h.step hr hk (hi.mono fun _k hk => .inl hk), hk, hi⟩
/-- bytes that are written out, as a block of its own -/
theorem bytes_lit (w : World) (l : List UInt8) (c : Array Value) (hc : c = (l.map byteV).toArray) (e : TypeId) (fz : Nat × Nat) (n m : Nat) (hm : m = l.length) (hn : m ≤ n) : Bytes (w.alloc (.cells c e fz)) (.slice (some ⟨w.heap.size, 0, none⟩) m n) l := by
  subst hc hm
  refine ⟨_, n, rfl, hn, ⟨_, n, by rw [List.length_map], fun j u hj => ⟨w.heap.size, 0, rfl, ?_⟩, fun e => by cases e⟩⟩
  rw [Nat.zero_add, World.cell?_alloc_mark]
  simpa using hj
theorem feed_lit {w0 w : World} {g : Nat} {v : Value} {s : Rd} (h : Rdr w0 w g v s) (l : List UInt8) (c : Array Value) (hc : c = (l.map byteV).toArray) (fz : Nat × Nat) (m : Nat) (hm : m = l.length) (hl : s.came.length ≤ 8192) (hll : l.length ≤ 8192) :
    Calls Tryz.prog 6 #[.pointer (some ⟨g, 0, none⟩), .slice (some ⟨w.heap.size, 0, none⟩) m m] (w.alloc (.cells c 5 fz)) fun e w' => ∃ v', e = .returned (.int .i64 ((feedX s l).1 : Int)) ∧ Rdr w0 w' g v' (feedX s l).2 := by
  have hb : Below w.heap.size w (w.alloc (.cells c 5 fz)) := (Below.refl _ _).alloc (Nat.le_refl _) _
  exact (feedR_any (h.then hb) _ l (bytesRead (bytes_lit w l c hc _ fz m m hm (Nat.le_refl _))) hl (by omega)).mono fun e w' ⟨v', he, hr, _⟩ => ⟨v', he, hr⟩
def exA : List UInt8 := [71, 69, 84, 32, 47, 32, 72, 84, 84, 80, 47, 49, 46, 49, 13, 10, 67, 111, 110, 116, 101, 110, 116, 45, 76, 101, 110, 103, 116, 104, 58, 32, 50, 13, 10, 13, 10, 97]
def exH : Hd := ⟨[71, 69, 84], [47], 0, 1, [([67, 111, 110, 116, 101, 110, 116, 45, 76, 101, 110, 103, 116, 104], [50])]⟩
theorem exA_more : queryX ⟨exA, false, 0⟩ = (.error 20, ⟨exA, false, 0⟩) := by kernel_rfl
theorem exA_reads : queryX ⟨exA ++ [98, 99], false, 0⟩ = (.ok (⟨[71, 69, 84], [47], 0, 1, [([67, 111, 110, 116, 101, 110, 116, 45, 76, 101, 110, 103, 116, 104], [50])]⟩, [97, 98]), ⟨[99], false, 0⟩) := by kernel_rfl
set_option maxRecDepth 100000 in
set_option maxHeartbeats 4000000 in
theorem anchor_any (w : World) (hm : MaxOk w) :
    Calls Tryz.prog 4 #[] w fun e w' => e = .returned (.bool true) ∧ Below w.heap.size w w' := by
  have h1 := rdr_new w w (Below.refl _ _)
  obtain ⟨W1, hW1⟩ : ∃ W, W = w.alloc (.cells (rdRow (.slice none 0 0) false 0) 63) := ⟨_, rfl⟩
  rw [← hW1] at h1
  have c1 := newReader_any w
  rw [← hW1] at c1
  have c2 := fun fz => feed_lit h1 exA #[Value.int .u8 71, Value.int .u8 69, Value.int .u8 84, Value.int .u8 32, Value.int .u8 47, Value.int .u8 32, Value.int .u8 72, Value.int .u8 84, Value.int .u8 84, Value.int .u8 80, Value.int .u8 47, Value.int .u8 49, Value.int .u8 46, Value.int .u8 49, Value.int .u8 13, Value.int .u8 10, Value.int .u8 67, Value.int .u8 111, Value.int .u8 110, Value.int .u8 116, Value.int .u8 101, Value.int .u8 110, Value.int .u8 116, Value.int .u8 45, Value.int .u8 76, Value.int .u8 101, Value.int .u8 110, Value.int .u8 103, Value.int .u8 116, Value.int .u8 104, Value.int .u8 58, Value.int .u8 32, Value.int .u8 50, Value.int .u8 13, Value.int .u8 10, Value.int .u8 13, Value.int .u8 10, Value.int .u8 97] rfl fz 38 rfl (by simp) (by decide)
  rw [show feedX ⟨[], false, 0⟩ exA = (0, ⟨exA, false, 0⟩) by kernel_rfl] at c2
  have C1 := hid c1
  have C2 := hid c2
  have HM := hid hm
  have kc := fun (w : World) (C : Array Value) (n c : Nat) => Lib.run_convert_bytes_const (P := Tryz.prog) w 27 5 C n c Tryz.underlying27 Tryz.underlying5
  clear h1 c1 c2 hm hW1
  go_enter Tryz.func4, Tryz.ntmps4
  go_wp2_with fail
  refine C1.out.mono ?_
  rintro e w1 ⟨rfl, rfl⟩
  go_wp2_with fail
  refine (C2.out _).mono ?_
  rintro e w2 ⟨v2, rfl, h2⟩
  have c3 := queryR_any h2 HM.out (by decide)
  rw [exA_more] at c3
  have C3 := hid c3
  clear C1 C2 h2 c3
  go_wp2_with fail
  refine C3.out.mono ?_
  rintro e w3 ⟨⟨-, rfl⟩, v3, h3, -⟩
  have h4 := h3.then (below_alloc w3 (.cells qryZero 42))
  obtain ⟨W4, hW4⟩ : ∃ W, W = w3.alloc (.cells qryZero 42) := ⟨_, rfl⟩
  rw [← hW4] at h4
  have c5 := fun fz => feed_lit h4 [98, 99] #[Value.int .u8 98, Value.int .u8 99] rfl fz 2 rfl (by decide) (by decide)
  rw [show feedX ⟨exA, false, 0⟩ [98, 99] = (0, ⟨exA ++ [98, 99], false, 0⟩) by kernel_rfl] at c5
  have hs4 : W4.heap.size = w3.heap.size + 1 := by rw [hW4]; simp
  simp only [hs4] at c5
  clear hs4
  have C5 := hid c5
  have kc2 := fun (C : Array Value) (n c : Nat) => kc (w3.alloc (.cells #[.string ⟨#[]⟩, .string ⟨#[]⟩, .int .i64 0, .slice none 0 0, .slice none 0 0] 42)) C n c
  simp only [alloc_size] at kc2
  clear C3 h3 h4 c5
  go_wp2_with fail
  rw [← hW4]
  clear hW4 kc2
  refine (C5.out _).mono ?_
  rintro e w5 ⟨v5, rfl, h5⟩
  have c6 := queryR_any h5 HM.out (by decide)
  rw [exA_reads] at c6
  have C6 := hid c6
  clear C5 h5 c6
  go_wp2_with fail
  refine C6.out.mono ?_
  rintro e w6 ⟨⟨vl, vb, rfl, hol, hob⟩, v6, h6, -⟩
  obtain ⟨aob, cb, rfl⟩ := ownsRow_bytes_form hob
  obtain ⟨aol, cl, rfl⟩ := ownsRow_form hol
  obtain ⟨W7, hW7⟩ : ∃ W, W = w6.alloc (.cells #[strV [71, 69, 84], strV [47], .int .i64 1, .slice aol 1 cl, .slice aob 2 cb] 42) := ⟨_, rfl⟩
  have hb7 : Below w6.heap.size w6 W7 := by rw [hW7]; exact below_alloc _ _
  have h7 := h6.then hb7
  have cv := ownsRow_string (hob.below hb7) 27 9 Tryz.underlying27 Tryz.underlying5 Tryz.underlying9
  have c8 := leftR_any h7
  rw [hW7] at cv
  simp only [List.length_cons, List.length_nil, Nat.zero_add, Nat.reduceAdd] at cv
  have C8 := hid c8
  have HB := hid h7.bl
  clear C6 h6 hb7 h7 c8 hol hob kc
  go_wp2_with fail
  rw [← hW7]
  clear hW7 cv
  refine C8.out.mono ?_
  rintro e w8 ⟨rfl, rfl⟩
  go_wp2_with fail
  go_ret
  exact ⟨rfl, HB.out⟩
end Go.Proofs.YtefplhkjcclppaaGreatDoor
