/-
  Contract of package date: join.
-/
import Derived.Test.YtjggelnpfeeabaaDoorDateB
namespace Go.Proofs.YtjggelnpfeeabaaDoor
open Go.RowKit Go.Pantry

/-- a part of a date -/
inductive Part
  | str (l : List UInt8)
  | two (n : Int)
  | four (n : Int)
abbrev Part.val : Part → Value
  | .str l => .iface 9 (strV l)
  | .two n => .iface 41 (.int .i64 n)
  | .four n => .iface 43 (.int .i64 n)
def Part.text : Part → List UInt8
  | .str l => l
  | .two n => twoL n
  | .four n => fourL n
def Part.ok : Part → Prop
  | .str l => l.length ≤ 1000
  | .two n => 0 ≤ n ∧ n ≤ 9999
  | .four n => 0 ≤ n ∧ n ≤ 9999
def joinL (ps : List Part) : List UInt8 := ps.flatMap Part.text

theorem strCells_map (l : List UInt8) : Lib.strCells ⟨l.toArray⟩ = l.map byteV := by
  simp [Lib.strCells]
/-- append(out, s...), s a string; out nil or the call's own. -/
theorem wpList_append_str {P : Program} {ops : Array Oper} {rest : List Oper} {o : Oper} {a : Act} {Q : Exit → Act → World → Prop} (w : World) (hgd : o.guard = none) (s x : Operand) (t u : TypeId)
    (ho : o.op = .call { callee := .builtin .append, args := #[s, x], argTypes := #[t, u] })
    (B : Nat) (e : TypeId) (ht : P.underlying t = some (.slice e)) (hu : P.underlying u = some .string) (hi : (P.info? e).map (fun i => (i.zero, i.size, i.bytes)) = some (some (.int .u8 0), 1, 1))
    {v : Value} {n : Nat} {xs : List Value} (hs : a.eval s = v) (hown : w.ownsRow B e 1 v n xs) {l : List UInt8} (hx : a.eval x = strV l) (hn : n + l.length < 4294967296) (hB : B ≤ w.heap.size)
    (h : ∀ v' w', w'.ownsRow B e 1 v' (n + l.length) (xs ++ l.map byteV) → Below B w w' → wpList P ops Q rest (a.put o.dst v') w') :
    wpList P ops Q (o :: rest) a w := by
  obtain ⟨i0, h1, h2, h3, h4⟩ := info_parts hi
  have hsz : (⟨l.toArray⟩ : ByteArray).size = l.length := by simp [ByteArray.size]
  refine Lib.wpList_append_own_string w hgd s x t u ho B e i0 ht hu h1 h2 h3 h4 v n xs hs hown ⟨l.toArray⟩ hx (by rw [hsz]; unfold maxLen; omega) (by rw [hsz]; omega) hB ?_
  intro v' w' ho' hg _
  rw [hsz, strCells_map] at ho'
  exact h v' w' ho' ((Below.refl B w).grown hg hB (fun k hk => (hown.lt k hk).1))
theorem row_text {w : World} {B : Nat} {e : TypeId} {v : Value} {L T R : List UInt8} (h : w.ownsRow B e 1 v (L.length + T.length) (L.map byteV ++ T.map byteV)) (hR : R = L ++ T) : w.ownsRow B e 1 v R.length (R.map byteV) := by
  subst hR; simpa using h
theorem joinL_take (ps : List Part) (k : Nat) (p : Part) (h : ps[k]? = some p) : joinL (ps.take (k + 1)) = joinL (ps.take k) ++ p.text := by
  obtain ⟨hk, rfl⟩ := List.getElem?_eq_some_iff.1 h
  rw [List.take_succ_eq_append_getElem hk]
  unfold joinL
  rw [List.flatMap_append]
  simp
theorem joinL_len (ps : List Part) (hp : ∀ p ∈ ps, p.ok) : (joinL ps).length ≤ 1000 * ps.length := by
  induction ps with
  | nil => simp [joinL]
  | cons p ps ih =>
    have := ih (fun q hq => hp q (List.mem_cons_of_mem _ hq))
    have h := hp p (List.mem_cons_self ..)
    simp only [joinL, List.flatMap_cons, List.length_append, List.length_cons] at this ⊢
    have : p.text.length ≤ 1000 := by
      cases p with
      | str l => exact h
      | two n => simp [Part.text, twoL]
      | four n => simp [Part.text, fourL]
    omega

theorem asSS (v : Value) (w : World) : (Instr.typeAssert (.iface 9 v) 20 9 true).run Tryd.prog w = .ok (.tuple #[v, .bool true]) w := by kernel_rfl
theorem asWS (v : Value) (w : World) : (Instr.typeAssert (.iface 41 v) 20 9 true).run Tryd.prog w = .ok (.tuple #[.string ⟨#[]⟩, .bool false]) w := by kernel_rfl
theorem asWW (v : Value) (w : World) : (Instr.typeAssert (.iface 41 v) 20 41 true).run Tryd.prog w = .ok (.tuple #[v, .bool true]) w := by kernel_rfl
theorem asFS (v : Value) (w : World) : (Instr.typeAssert (.iface 43 v) 20 9 true).run Tryd.prog w = .ok (.tuple #[.string ⟨#[]⟩, .bool false]) w := by kernel_rfl
theorem asFW (v : Value) (w : World) : (Instr.typeAssert (.iface 43 v) 20 41 true).run Tryd.prog w = .ok (.tuple #[.int .i64 0, .bool false]) w := by kernel_rfl
theorem asFF (v : Value) (w : World) : (Instr.typeAssert (.iface 43 v) 20 43 true).run Tryd.prog w = .ok (.tuple #[v, .bool true]) w := by kernel_rfl

set_option maxHeartbeats 4000000 in
theorem join_any (v : Value) (ps : List Part) (w : World) (hr : Reads w v (ps.map Part.val)) (hn : ps.length ≤ 1000) (hp : ∀ p ∈ ps, p.ok) :
    Calls Tryd.prog 18 #[v] w fun e w' => e = .returned (strV (joinL ps)) ∧ Below w.heap.size w w' := by
  obtain ⟨ao, cap, rfl, hc, -⟩ := hr
  rw [List.length_map]
  have HC := hid hc
  have HP := hid hp
  clear hc hp
  go_enter Tryd.func18, Tryd.ntmps18
  go_wp2
  go_loopw [3, 11] (fun d' i' wr => ∃ (k : Nat), k ≤ ps.length ∧ i' = .int .i64 k ∧ wr.ownsRow w.heap.size 5 1 d' (joinL (ps.take k)).length ((joinL (ps.take k)).map byteV) ∧ Below w.heap.size w wr) (fun _ i' _ => ps.length - (intOf i').toNat)
  case atStart => exact ⟨0, Nat.zero_le _, rfl, World.ownsRow_nil _ _ _ _, Below.refl _ _⟩
  case round =>
    obtain ⟨k, hk, rfl, ho, hb⟩ := hrel
    have hs := hb.size
    have hl : (joinL (ps.take k)).length ≤ 1000000 := by
      have := joinL_len (ps.take k) (fun p h => HP.out p (List.mem_of_mem_take h))
      rw [List.length_take] at this
      omega
    by_cases hlt : k < ps.length
    · obtain ⟨p, hpk⟩ : ∃ p, ps[k]? = some p := ⟨_, List.getElem?_eq_getElem hlt⟩
      obtain ⟨b, off, rfl, hcell⟩ := HC.out k p.val (by simp [hpk])
      have hcw := (hb.cell (p := ⟨b, off + k, none⟩) (World.block_lt_of_cell? w _ hcell)).trans hcell
      have hok := HP.out p (List.mem_of_getElem? hpk)
      have HT := hid (joinL_take ps k p hpk)
      clear hpk hcell
      cases p with
      | str l =>
        have hl2 : l.length ≤ 1000 := hok
        clear hok
        simp only [Part.val] at hcw
        have a1 := asSS (strV l)
        go_wp2_with ((at_builtin; go_must (refine wpList_append_str _ rfl _ _ 34 9 rfl w.heap.size 5 Tryd.underlying34 Tryd.underlying9 infoU8 rfl ho rfl (by omega) hs ?_); intro v' w1 hown1 hb1))
        go_roundw
        case rel => exact ⟨k + 1, hlt, by go_num, row_text hown1 HT.out, hb.trans hb1⟩
        case measure => simp [intOf]; omega
      | two n =>
        obtain ⟨n1, n2⟩ : 0 ≤ n ∧ n ≤ 9999 := hok
        simp only [Part.val] at hcw
        have a1 := asWS (.int .i64 n)
        have a2 := asWW (.int .i64 n)
        go_wp2_with (go_at_call 24; go_must (refine (appendDigits_any _ (joinL (ps.take k)) w.heap.size _ _ _ (.inl rfl) n1 n2 ho hs (by omega)).mono ?_); rintro e w1 ⟨v', rfl, hown1, hb1⟩)
        go_roundw
        case rel => exact ⟨k + 1, hlt, by go_num, by rw [HT.out]; exact hown1, hb.trans hb1⟩
        case measure => simp [intOf]; omega
      | four n =>
        obtain ⟨n1, n2⟩ : 0 ≤ n ∧ n ≤ 9999 := hok
        simp only [Part.val] at hcw
        have a1 := asFS (.int .i64 n)
        have a2 := asFW (.int .i64 n)
        have a3 := asFF (.int .i64 n)
        go_wp2_with (go_at_call 24; go_must (refine (appendDigits_any _ (joinL (ps.take k)) w.heap.size _ _ _ (.inr rfl) n1 n2 ho hs (by omega)).mono ?_); rintro e w1 ⟨v', rfl, hown1, hb1⟩)
        go_roundw
        case rel => exact ⟨k + 1, hlt, by go_num, by rw [HT.out]; exact hown1, hb.trans hb1⟩
        case measure => simp [intOf]; omega
    · have hke : ps.take k = ps := List.take_of_length_le (by omega)
      rw [hke] at ho
      have hcv := ownsRow_string ho 34 9 Tryd.underlying34 Tryd.underlying5 Tryd.underlying9
      clear hke ho
      go_wp2
      go_ret
      exact ⟨rfl, hb⟩
end Go.Proofs.YtjggelnpfeeabaaDoor
