/-
  Several texts in one: DateB, DateJ.
-/
import Derived.Test.YtoolboafbkikjaaDoorF1308
import Derived.Test.YtoolboafbkikjaaDoorF1304
import Derived.Test.YtoolboafbkikjaaDoorF1302
import Derived.Lib.AppendStr
import Derived.Test.YtoolboafbkikjaaDoorAppStr
set_option linter.unusedVariables false
set_option linter.unusedSimpArgs false
/-
  Contracts of package date: appendDigits, join.
-/
namespace Go.Proofs.YtoolboafbkikjaaDoor
open Go.RowKit Go.Pantry

theorem byteV_dig (n : Int) (h1 : 0 ≤ n) (h2 : n ≤ 9) : Value.int .u8 (48 + n) = byteV (digB n) := by
  show _ = Value.int .u8 ((digB n).toNat : Int)
  rw [digB_val n h1 h2]
theorem row_dig {w : World} {B : Nat} {e : TypeId} {v : Value} {L : List UInt8} {n : Int} (h : w.ownsRow B e 1 v (L.length + 1) (L.map byteV ++ [Value.int .u8 (48 + n)])) (h1 : 0 ≤ n) (h2 : n ≤ 9) :
    w.ownsRow B e 1 v (L ++ [digB n]).length ((L ++ [digB n]).map byteV) := by
  rw [byteV_dig n h1 h2] at h
  simpa using h
theorem digsL_step1 (n : Int) : digsL n 1 = digB (n % 10) :: digsL n 0 := rfl
theorem digsL_step10 (n : Int) : digsL n 10 = digB (n / 10 % 10) :: digsL n 1 := rfl
theorem digsL_step100 (n : Int) : digsL n 100 = digB (n / 100 % 10) :: digsL n 10 := rfl
theorem digsL_step1000 (n : Int) : digsL n 1000 = digB (n / 1000 % 10) :: digsL n 100 := rfl
theorem digsL_0 (n : Int) : digsL n 0 = [] := rfl
theorem step_row {L R : List UInt8} {c : UInt8} {n x y : Int} (h : L ++ digsL n x = R) (hs : digsL n x = c :: digsL n y) : (L ++ [c]) ++ digsL n y = R := by
  rw [← h, hs]; simp

set_option maxHeartbeats 4000000 in
theorem appendDigits_any (v : Value) (E : List UInt8) (B : Nat) (n u : Int) (w : World) (hu : u = 10 ∨ u = 1000) (h1 : 0 ≤ n) (h2 : n ≤ 9999) (hown : w.ownsRow B 5 1 v E.length (E.map byteV)) (hB : B ≤ w.heap.size) (hE : E.length < 2000000) :
    Calls Tryd.prog 105 #[v, .int .i64 n, .int .i64 u] w fun e w' => ∃ v', e = .returned v' ∧ w'.ownsRow B 5 1 v' (E ++ digsL n u).length ((E ++ digsL n u).map byteV) ∧ Below B w w' := by
  obtain ⟨R, hR⟩ : ∃ R, E ++ digsL n u = R := ⟨_, rfl⟩
  have hRl : R.length < 2000100 := by rw [← hR, List.length_append]; have := digsL_len n u; omega
  have hR0 := hid hR
  rw [hR]
  clear hR
  go_enter Tryd.func105, Tryd.ntmps105
  go_wp2
  go_loopw [0, 2] (fun v' u' wr => ∃ (x : Int) (L : List UInt8), (x = 0 ∨ x = 1 ∨ x = 10 ∨ x = 100 ∨ x = 1000) ∧ u' = .int .i64 x ∧ L ++ digsL n x = R ∧ wr.ownsRow B 5 1 v' L.length (L.map byteV) ∧ Below B w wr) (fun _ u' _ => (intOf u').toNat)
  case atStart => exact ⟨u, E, by omega, rfl, hR0.out, hown, Below.refl _ _⟩
  case round =>
    obtain ⟨x, L, hx, rfl, hL, ho, hb⟩ := hrel
    have hLl : L.length < 2000100 := by have := congrArg List.length hL; rw [List.length_append] at this; omega
    have hBr : B ≤ wr.heap.size := Nat.le_trans hB hb.size
    have HL := hid hL
    clear hL hR0 hown
    rcases hx with rfl | rfl | rfl | rfl | rfl
    · go_wp2
      go_ret
      have e := HL.out
      rw [digsL_0, List.append_nil] at e
      subst e
      exact ⟨_, rfl, ho, hb⟩
    · go_wp2_with ((at_builtin; go_must (refine wpList_append_one _ rfl _ _ 46 rfl B 5 Tryd.underlying46 infoU8 rfl (by decide) rfl ho rfl rfl (by omega) hBr ?_); intro v' w1 hown1 hg1 hb1))
      go_roundw
      case rel => exact ⟨0, _, by omega, rfl, step_row HL.out (digsL_step1 n), row_dig hown1 (by omega) (by omega), hb.trans hb1⟩
      case measure => simp [intOf]
    · go_wp2_with ((at_builtin; go_must (refine wpList_append_one _ rfl _ _ 46 rfl B 5 Tryd.underlying46 infoU8 rfl (by decide) rfl ho rfl rfl (by omega) hBr ?_); intro v' w1 hown1 hg1 hb1))
      go_roundw
      case rel => exact ⟨1, _, by omega, rfl, step_row HL.out (digsL_step10 n), row_dig hown1 (by omega) (by omega), hb.trans hb1⟩
      case measure => simp [intOf]
    · go_wp2_with ((at_builtin; go_must (refine wpList_append_one _ rfl _ _ 46 rfl B 5 Tryd.underlying46 infoU8 rfl (by decide) rfl ho rfl rfl (by omega) hBr ?_); intro v' w1 hown1 hg1 hb1))
      go_roundw
      case rel => exact ⟨10, _, by omega, rfl, step_row HL.out (digsL_step100 n), row_dig hown1 (by omega) (by omega), hb.trans hb1⟩
      case measure => simp [intOf]
    · go_wp2_with ((at_builtin; go_must (refine wpList_append_one _ rfl _ _ 46 rfl B 5 Tryd.underlying46 infoU8 rfl (by decide) rfl ho rfl rfl (by omega) hBr ?_); intro v' w1 hown1 hg1 hb1))
      go_roundw
      case rel => exact ⟨100, _, by omega, rfl, step_row HL.out (digsL_step1000 n), row_dig hown1 (by omega) (by omega), hb.trans hb1⟩
      case measure => simp [intOf]
end Go.Proofs.YtoolboafbkikjaaDoor
/-
  Contract of package date: join.
-/
namespace Go.Proofs.YtoolboafbkikjaaDoor
open Go.RowKit Go.Pantry

/-- a part of a date -/
inductive Part
  | str (l : List UInt8)
  | two (n : Int)
  | four (n : Int)
abbrev Part.val : Part → Value
  | .str l => .iface 9 (strV l)
  | .two n => .iface 113 (.int .i64 n)
  | .four n => .iface 115 (.int .i64 n)
def Part.text : Part → List UInt8
  | .str l => l
  | .two n => twoL n
  | .four n => fourL n
def Part.ok : Part → Prop
  | .str l => l.length ≤ 1000
  | .two n => 0 ≤ n ∧ n ≤ 9999
  | .four n => 0 ≤ n ∧ n ≤ 9999
def joinL (ps : List Part) : List UInt8 := ps.flatMap Part.text

theorem joinL_take (ps : List Part) (k : Nat) (p : Part) (h : ps[k]? = some p) : joinL (ps.take (k + 1)) = joinL (ps.take k) ++ p.text := by
  obtain ⟨hk, rfl⟩ := List.getElem?_eq_some_iff.1 h
  rw [List.take_succ_eq_append_getElem hk]
  unfold joinL
  rw [List.flatMap_append]
  simp
theorem joinL_len (ps : List Part) (hp : ∀ p ∈ ps, p.ok) : (joinL ps).length ≤ 1000 * ps.length := by
  induction ps with
  | nil => simp [joinL]
  | cons p ps ih =>
    have := ih (fun q hq => hp q (List.mem_cons_of_mem _ hq))
    have h := hp p (List.mem_cons_self ..)
    simp only [joinL, List.flatMap_cons, List.length_append, List.length_cons] at this ⊢
    have : p.text.length ≤ 1000 := by
      cases p with
      | str l => exact h
      | two n => simp [Part.text, twoL]
      | four n => simp [Part.text, fourL]
    omega

theorem asSS (v : Value) (w : World) : (Instr.typeAssert (.iface 9 v) 20 9 true).run Tryd.prog w = .ok (.tuple #[v, .bool true]) w := by kernel_rfl
theorem asWS (v : Value) (w : World) : (Instr.typeAssert (.iface 113 v) 20 9 true).run Tryd.prog w = .ok (.tuple #[.string ⟨#[]⟩, .bool false]) w := by kernel_rfl
theorem asWW (v : Value) (w : World) : (Instr.typeAssert (.iface 113 v) 20 113 true).run Tryd.prog w = .ok (.tuple #[v, .bool true]) w := by kernel_rfl
theorem asFS (v : Value) (w : World) : (Instr.typeAssert (.iface 115 v) 20 9 true).run Tryd.prog w = .ok (.tuple #[.string ⟨#[]⟩, .bool false]) w := by kernel_rfl
theorem asFW (v : Value) (w : World) : (Instr.typeAssert (.iface 115 v) 20 113 true).run Tryd.prog w = .ok (.tuple #[.int .i64 0, .bool false]) w := by kernel_rfl
theorem asFF (v : Value) (w : World) : (Instr.typeAssert (.iface 115 v) 20 115 true).run Tryd.prog w = .ok (.tuple #[v, .bool true]) w := by kernel_rfl

set_option maxHeartbeats 4000000 in
theorem join_any (v : Value) (ps : List Part) (w : World) (hr : Reads w v (ps.map Part.val)) (hn : ps.length ≤ 1000) (hp : ∀ p ∈ ps, p.ok) :
    Calls Tryd.prog 94 #[v] w fun e w' => e = .returned (strV (joinL ps)) ∧ Below w.heap.size w w' := by
  obtain ⟨ao, cap, rfl, hc, -⟩ := hr
  rw [List.length_map]
  have HC := hid hc
  have HP := hid hp
  clear hc hp
  go_enter Tryd.func94, Tryd.ntmps94
  go_wp2
  go_loopw [3, 11] (fun d' i' wr => ∃ (k : Nat), k ≤ ps.length ∧ i' = .int .i64 k ∧ wr.ownsRow w.heap.size 5 1 d' (joinL (ps.take k)).length ((joinL (ps.take k)).map byteV) ∧ Below w.heap.size w wr) (fun _ i' _ => ps.length - (intOf i').toNat)
  case atStart => exact ⟨0, Nat.zero_le _, rfl, World.ownsRow_nil _ _ _ _, Below.refl _ _⟩
  case round =>
    obtain ⟨k, hk, rfl, ho, hb⟩ := hrel
    have hs := hb.size
    have hl : (joinL (ps.take k)).length ≤ 1000000 := by
      have := joinL_len (ps.take k) (fun p h => HP.out p (List.mem_of_mem_take h))
      rw [List.length_take] at this
      omega
    by_cases hlt : k < ps.length
    · obtain ⟨p, hpk⟩ : ∃ p, ps[k]? = some p := ⟨_, List.getElem?_eq_getElem hlt⟩
      obtain ⟨b, off, rfl, hcell⟩ := HC.out k p.val (by simp [hpk])
      have hcw := (hb.cell (p := ⟨b, off + k, none⟩) (World.block_lt_of_cell? w _ hcell)).trans hcell
      have hok := HP.out p (List.mem_of_getElem? hpk)
      have HT := hid (joinL_take ps k p hpk)
      clear hpk hcell
      cases p with
      | str l =>
        have hl2 : l.length ≤ 1000 := hok
        clear hok
        simp only [Part.val] at hcw
        have a1 := asSS (strV l)
        go_wp2_with ((at_builtin; go_must (refine wpList_append_str _ rfl _ _ 46 9 rfl w.heap.size 5 Tryd.underlying46 Tryd.underlying9 infoU8 rfl ho rfl (by omega) hs ?_); intro v' w1 hown1 hb1))
        go_roundw
        case rel => exact ⟨k + 1, hlt, by go_num, row_text hown1 HT.out, hb.trans hb1⟩
        case measure => simp [intOf]; omega
      | two n =>
        obtain ⟨n1, n2⟩ : 0 ≤ n ∧ n ≤ 9999 := hok
        simp only [Part.val] at hcw
        have a1 := asWS (.int .i64 n)
        have a2 := asWW (.int .i64 n)
        go_wp2_with (go_at_call 105; go_must (refine (appendDigits_any _ (joinL (ps.take k)) w.heap.size _ _ _ (.inl rfl) n1 n2 ho hs (by omega)).mono ?_); rintro e w1 ⟨v', rfl, hown1, hb1⟩)
        go_roundw
        case rel => exact ⟨k + 1, hlt, by go_num, by rw [HT.out]; exact hown1, hb.trans hb1⟩
        case measure => simp [intOf]; omega
      | four n =>
        obtain ⟨n1, n2⟩ : 0 ≤ n ∧ n ≤ 9999 := hok
        simp only [Part.val] at hcw
        have a1 := asFS (.int .i64 n)
        have a2 := asFW (.int .i64 n)
        have a3 := asFF (.int .i64 n)
        go_wp2_with (go_at_call 105; go_must (refine (appendDigits_any _ (joinL (ps.take k)) w.heap.size _ _ _ (.inr rfl) n1 n2 ho hs (by omega)).mono ?_); rintro e w1 ⟨v', rfl, hown1, hb1⟩)
        go_roundw
        case rel => exact ⟨k + 1, hlt, by go_num, by rw [HT.out]; exact hown1, hb.trans hb1⟩
        case measure => simp [intOf]; omega
    · have hke : ps.take k = ps := List.take_of_length_le (by omega)
      rw [hke] at ho
      have hcv := ownsRow_string ho 46 9 Tryd.underlying46 Tryd.underlying5 Tryd.underlying9
      clear hke ho
      go_wp2
      go_ret
      exact ⟨rfl, hb⟩
end Go.Proofs.YtoolboafbkikjaaDoor
