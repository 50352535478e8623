/-
  Contracts of package date: appendDigits, join.
-/
import Derived.Test.YtjggelnpfeeabaaDoorDateSplit
import Derived.Test.YtjggelnpfeeabaaDoorPureShow
import Derived.Lib.AppendStr
namespace Go.Proofs.YtjggelnpfeeabaaDoor
open Go.RowKit Go.Pantry

theorem infoU8 : (Tryd.prog.info? 5).map (fun i => (i.zero, i.size, i.bytes)) = some (some (.int .u8 0), 1, 1) := by kernel_rfl
theorem byteV_dig (n : Int) (h1 : 0 ≤ n) (h2 : n ≤ 9) : Value.int .u8 (48 + n) = byteV (digB n) := by
  show _ = Value.int .u8 ((digB n).toNat : Int)
  rw [digB_val n h1 h2]
theorem row_dig {w : World} {B : Nat} {e : TypeId} {v : Value} {L : List UInt8} {n : Int} (h : w.ownsRow B e 1 v (L.length + 1) (L.map byteV ++ [Value.int .u8 (48 + n)])) (h1 : 0 ≤ n) (h2 : n ≤ 9) :
    w.ownsRow B e 1 v (L ++ [digB n]).length ((L ++ [digB n]).map byteV) := by
  rw [byteV_dig n h1 h2] at h
  simpa using h
theorem digsL_step1 (n : Int) : digsL n 1 = digB (n % 10) :: digsL n 0 := rfl
theorem digsL_step10 (n : Int) : digsL n 10 = digB (n / 10 % 10) :: digsL n 1 := rfl
theorem digsL_step100 (n : Int) : digsL n 100 = digB (n / 100 % 10) :: digsL n 10 := rfl
theorem digsL_step1000 (n : Int) : digsL n 1000 = digB (n / 1000 % 10) :: digsL n 100 := rfl
theorem digsL_0 (n : Int) : digsL n 0 = [] := rfl
theorem step_row {L R : List UInt8} {c : UInt8} {n x y : Int} (h : L ++ digsL n x = R) (hs : digsL n x = c :: digsL n y) : (L ++ [c]) ++ digsL n y = R := by
  rw [← h, hs]; simp

set_option maxHeartbeats 4000000 in
theorem appendDigits_any (v : Value) (E : List UInt8) (B : Nat) (n u : Int) (w : World) (hu : u = 10 ∨ u = 1000) (h1 : 0 ≤ n) (h2 : n ≤ 9999) (hown : w.ownsRow B 5 1 v E.length (E.map byteV)) (hB : B ≤ w.heap.size) (hE : E.length < 2000000) :
    Calls Tryd.prog 24 #[v, .int .i64 n, .int .i64 u] w fun e w' => ∃ v', e = .returned v' ∧ w'.ownsRow B 5 1 v' (E ++ digsL n u).length ((E ++ digsL n u).map byteV) ∧ Below B w w' := by
  obtain ⟨R, hR⟩ : ∃ R, E ++ digsL n u = R := ⟨_, rfl⟩
  have hRl : R.length < 2000100 := by rw [← hR, List.length_append]; have := digsL_len n u; omega
  have hR0 := hid hR
  rw [hR]
  clear hR
  go_enter Tryd.func24, Tryd.ntmps24
  go_wp2
  go_loopw [0, 2] (fun v' u' wr => ∃ (x : Int) (L : List UInt8), (x = 0 ∨ x = 1 ∨ x = 10 ∨ x = 100 ∨ x = 1000) ∧ u' = .int .i64 x ∧ L ++ digsL n x = R ∧ wr.ownsRow B 5 1 v' L.length (L.map byteV) ∧ Below B w wr) (fun _ u' _ => (intOf u').toNat)
  case atStart => exact ⟨u, E, by omega, rfl, hR0.out, hown, Below.refl _ _⟩
  case round =>
    obtain ⟨x, L, hx, rfl, hL, ho, hb⟩ := hrel
    have hLl : L.length < 2000100 := by have := congrArg List.length hL; rw [List.length_append] at this; omega
    have hBr : B ≤ wr.heap.size := Nat.le_trans hB hb.size
    have HL := hid hL
    clear hL hR0 hown
    rcases hx with rfl | rfl | rfl | rfl | rfl
    · go_wp2
      go_ret
      have e := HL.out
      rw [digsL_0, List.append_nil] at e
      subst e
      exact ⟨_, rfl, ho, hb⟩
    · go_wp2_with ((at_builtin; go_must (refine wpList_append_one _ rfl _ _ 34 rfl B 5 Tryd.underlying34 infoU8 rfl (by decide) rfl ho rfl rfl (by omega) hBr ?_); intro v' w1 hown1 hg1 hb1))
      go_roundw
      case rel => exact ⟨0, _, by omega, rfl, step_row HL.out (digsL_step1 n), row_dig hown1 (by omega) (by omega), hb.trans hb1⟩
      case measure => simp [intOf]
    · go_wp2_with ((at_builtin; go_must (refine wpList_append_one _ rfl _ _ 34 rfl B 5 Tryd.underlying34 infoU8 rfl (by decide) rfl ho rfl rfl (by omega) hBr ?_); intro v' w1 hown1 hg1 hb1))
      go_roundw
      case rel => exact ⟨1, _, by omega, rfl, step_row HL.out (digsL_step10 n), row_dig hown1 (by omega) (by omega), hb.trans hb1⟩
      case measure => simp [intOf]
    · go_wp2_with ((at_builtin; go_must (refine wpList_append_one _ rfl _ _ 34 rfl B 5 Tryd.underlying34 infoU8 rfl (by decide) rfl ho rfl rfl (by omega) hBr ?_); intro v' w1 hown1 hg1 hb1))
      go_roundw
      case rel => exact ⟨10, _, by omega, rfl, step_row HL.out (digsL_step100 n), row_dig hown1 (by omega) (by omega), hb.trans hb1⟩
      case measure => simp [intOf]
    · go_wp2_with ((at_builtin; go_must (refine wpList_append_one _ rfl _ _ 34 rfl B 5 Tryd.underlying34 infoU8 rfl (by decide) rfl ho rfl rfl (by omega) hBr ?_); intro v' w1 hown1 hg1 hb1))
      go_roundw
      case rel => exact ⟨100, _, by omega, rfl, step_row HL.out (digsL_step1000 n), row_dig hown1 (by omega) (by omega), hb.trans hb1⟩
      case measure => simp [intOf]
end Go.Proofs.YtjggelnpfeeabaaDoor
