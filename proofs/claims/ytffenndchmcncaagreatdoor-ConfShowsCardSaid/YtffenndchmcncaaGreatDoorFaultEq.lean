/-
  '==' of two faults that are the same.
-/
import Derived.Test.YtffenndchmcncaaGreatDoorProg
import Derived.Test.YtffenndchmcncaaGreatDoorPureAll1
import Derived.Laws.StructEq
namespace Go.Proofs.YtffenndchmcncaaGreatDoor
open Go.RowKit Go.Pantry

theorem equalFault (a b : Int) (w : World) : (Op.equalIn 10000 28 (.agg #[.int .i64 a, .int .i64 b]) (.agg #[.int .i64 a, .int .i64 b])).run Tryz.prog w = .ok true w := by
  have hu : Tryz.prog.underlying 28 = some (.struct (Tryz.prog.fieldsOf 28)) := by kernel_rfl
  have hp : Tryz.prog.stoodInHeld 28 = false := by kernel_rfl
  rw [run_equalIn_agg w 9999 _ _ _ hu hp]
  have hf : (Tryz.prog.fieldsOf 28).toList.map (fun x => (x.name == "_", x.type, x.offset)) = [(false, 26, 0), (false, 3, 1)] := by kernel_rfl
  generalize (Tryz.prog.fieldsOf 28).toList = fs at hf
  have hl : fs.length = 2 := by simpa using congrArg List.length hf
  obtain ⟨f0, f1, rfl⟩ : ∃ f0 f1, fs = [f0, f1] := by
    cases fs with
    | nil => simp at hl
    | cons f0 fs =>
      cases fs with
      | nil => simp at hl
      | cons f1 fs =>
        cases fs with
        | nil => exact ⟨f0, f1, rfl⟩
        | cons f2 fs => simp at hl
  simp only [List.map_cons, List.map_nil, List.cons.injEq, Prod.mk.injEq, and_true] at hf
  obtain ⟨⟨n0, t0, o0⟩, n1, t1, o1⟩ := hf
  have n0' : f0.name ≠ "_" := by simpa using n0
  have n1' : f1.name ≠ "_" := by simpa using n1
  have p0 : ∀ (u v : Value) (W : World), (part 26 #[u, v] 0).run Tryz.prog W = .ok u W := by intro u v W; kernel_rfl
  have p1 : ∀ (u v : Value) (W : World), (part 3 #[u, v] 1).run Tryz.prog W = .ok v W := by intro u v W; kernel_rfl
  have q : ∀ (x y : Int) (W : World), (Op.equalIn 9999 3 (.int .i64 x) (.int .i64 y)).run Tryz.prog W = .ok (x == y) W := by
    intro x y W
    first
    | exact run_equalIn_int (P := Tryz.prog) W 9998 3 .i64 x y Tryz.underlying3
    | exact run_equalIn_int W 9998 3 .i64 x y
    | kernel_rfl
    | simp [Op.equalIn]
  have q2 : ∀ (x y : Int) (W : World), (Op.equalIn 9999 26 (.int .i64 x) (.int .i64 y)).run Tryz.prog W = .ok (x == y) W := by
    intro x y W
    first
    | exact run_equalIn_int (P := Tryz.prog) W 9998 26 .i64 x y Tryz.underlying26
    | exact run_equalIn_int W 9998 26 .i64 x y
    | kernel_rfl
    | simp [Op.equalIn]
  simp [Op.eqFields, n0', n1', t0, t1, o0, o1, p0, p1, q, q2]
theorem eqlFault (a b : Int) (w : World) : (binOp .eql 28 (.agg #[.int .i64 a, .int .i64 b]) (.agg #[.int .i64 a, .int .i64 b])).run Tryz.prog w = .ok (.bool true) w := by
  rw [run_eql_struct, equalFault]
  rfl
end Go.Proofs.YtffenndchmcncaaGreatDoor
