/-
  Two rows of actions that are the same.
-/
import Derived.Test.YtenijpcjemdhfaaGreatDoorP10d08
import Derived.Laws.StructEq

namespace Go.Proofs.YtenijpcjemdhfaaGreatDoor
open Go.RowKit Go.Pantry

theorem guardAct1 : Tryz.prog.eqGuardType Tryz.prog.depth 48 = false := by kernel_rfl
theorem equalAct1 (a : Int) (s : ByteArray) (w : World) : (Op.equalIn 10000 48 (.agg #[.int .i64 a, .string s]) (.agg #[.int .i64 a, .string s])).run Tryz.prog w = .ok true w := by
  have hu : Tryz.prog.underlying 48 = some (.struct (Tryz.prog.fieldsOf 48)) := by kernel_rfl
  have hp : Tryz.prog.stoodInHeld 48 = false := by kernel_rfl
  rw [run_equalIn_agg w 9999 _ _ _ hu hp]
  have hf : (Tryz.prog.fieldsOf 48).toList.map (fun x => (x.name == "_", x.type, x.offset)) = [(false, 3, 0), (false, 9, 1)] := by kernel_rfl
  generalize (Tryz.prog.fieldsOf 48).toList = fs at hf
  have hl : fs.length = 2 := by simpa using congrArg List.length hf
  obtain ⟨f0, f1, rfl⟩ : ∃ f0 f1, fs = [f0, f1] := by
    cases fs with
    | nil => simp at hl
    | cons f0 fs =>
      cases fs with
      | nil => simp at hl
      | cons f1 fs =>
        cases fs with
        | nil => exact ⟨f0, f1, rfl⟩
        | cons f2 fs => simp at hl
  simp only [List.map_cons, List.map_nil, List.cons.injEq, Prod.mk.injEq, and_true] at hf
  obtain ⟨⟨n0, t0, o0⟩, n1, t1, o1⟩ := hf
  have n0' : f0.name ≠ "_" := by simpa using n0
  have n1' : f1.name ≠ "_" := by simpa using n1
  have p0 : ∀ (u v : Value) (W : World), (part 3 #[u, v] 0).run Tryz.prog W = .ok u W := by intro u v W; kernel_rfl
  have p1 : ∀ (u v : Value) (W : World), (part 9 #[u, v] 1).run Tryz.prog W = .ok v W := by intro u v W; kernel_rfl
  have q : ∀ (x : Int) (W : World), (Op.equalIn 9999 3 (.int .i64 x) (.int .i64 x)).run Tryz.prog W = .ok true W := by
    intro x W
    have h := run_equalIn_int (P := Tryz.prog) (w := W) 9998 3 .i64 .i64 x x Tryz.underlying3
    rw [beq_self_eq_true] at h
    exact h
  have q2 : ∀ (x : ByteArray) (W : World), (Op.equalIn 9999 9 (.string x) (.string x)).run Tryz.prog W = .ok true W := by
    intro x W
    have h := run_equalIn_string (P := Tryz.prog) (w := W) 9998 9 x x Tryz.underlying9
    rw [beq_self_eq_true] at h
    exact h
  simp [Op.eqFields, n0', n1', t0, t1, o0, o1, p0, p1, q, q2]
theorem neqAct1 (a : Int) (s : ByteArray) (w : World) : (binOp .neq 48 (.agg #[.int .i64 a, .string s]) (.agg #[.int .i64 a, .string s])).run Tryz.prog w = .ok (.bool false) w := by
  rw [run_neq_struct, equalAct1]
  rfl
theorem eqlAct1 (a : Int) (s : ByteArray) (w : World) : (binOp .eql 48 (.agg #[.int .i64 a, .string s]) (.agg #[.int .i64 a, .string s])).run Tryz.prog w = .ok (.bool true) w := by
  rw [run_eql_struct, equalAct1]
  rfl
theorem guardAct2 : Tryz.prog.eqGuardType Tryz.prog.depth 96 = false := by kernel_rfl
theorem equalAct2 (a : Int) (s : ByteArray) (w : World) : (Op.equalIn 10000 96 (.agg #[.int .i64 a, .string s]) (.agg #[.int .i64 a, .string s])).run Tryz.prog w = .ok true w := by
  have hu : Tryz.prog.underlying 96 = some (.struct (Tryz.prog.fieldsOf 96)) := by kernel_rfl
  have hp : Tryz.prog.stoodInHeld 96 = false := by kernel_rfl
  rw [run_equalIn_agg w 9999 _ _ _ hu hp]
  have hf : (Tryz.prog.fieldsOf 96).toList.map (fun x => (x.name == "_", x.type, x.offset)) = [(false, 3, 0), (false, 9, 1)] := by kernel_rfl
  generalize (Tryz.prog.fieldsOf 96).toList = fs at hf
  have hl : fs.length = 2 := by simpa using congrArg List.length hf
  obtain ⟨f0, f1, rfl⟩ : ∃ f0 f1, fs = [f0, f1] := by
    cases fs with
    | nil => simp at hl
    | cons f0 fs =>
      cases fs with
      | nil => simp at hl
      | cons f1 fs =>
        cases fs with
        | nil => exact ⟨f0, f1, rfl⟩
        | cons f2 fs => simp at hl
  simp only [List.map_cons, List.map_nil, List.cons.injEq, Prod.mk.injEq, and_true] at hf
  obtain ⟨⟨n0, t0, o0⟩, n1, t1, o1⟩ := hf
  have n0' : f0.name ≠ "_" := by simpa using n0
  have n1' : f1.name ≠ "_" := by simpa using n1
  have p0 : ∀ (u v : Value) (W : World), (part 3 #[u, v] 0).run Tryz.prog W = .ok u W := by intro u v W; kernel_rfl
  have p1 : ∀ (u v : Value) (W : World), (part 9 #[u, v] 1).run Tryz.prog W = .ok v W := by intro u v W; kernel_rfl
  have q : ∀ (x : Int) (W : World), (Op.equalIn 9999 3 (.int .i64 x) (.int .i64 x)).run Tryz.prog W = .ok true W := by
    intro x W
    have h := run_equalIn_int (P := Tryz.prog) (w := W) 9998 3 .i64 .i64 x x Tryz.underlying3
    rw [beq_self_eq_true] at h
    exact h
  have q2 : ∀ (x : ByteArray) (W : World), (Op.equalIn 9999 9 (.string x) (.string x)).run Tryz.prog W = .ok true W := by
    intro x W
    have h := run_equalIn_string (P := Tryz.prog) (w := W) 9998 9 x x Tryz.underlying9
    rw [beq_self_eq_true] at h
    exact h
  simp [Op.eqFields, n0', n1', t0, t1, o0, o1, p0, p1, q, q2]
theorem neqAct2 (a : Int) (s : ByteArray) (w : World) : (binOp .neq 96 (.agg #[.int .i64 a, .string s]) (.agg #[.int .i64 a, .string s])).run Tryz.prog w = .ok (.bool false) w := by
  rw [run_neq_struct, equalAct2]
  rfl
theorem eqlAct2 (a : Int) (s : ByteArray) (w : World) : (binOp .eql 96 (.agg #[.int .i64 a, .string s]) (.agg #[.int .i64 a, .string s])).run Tryz.prog w = .ok (.bool true) w := by
  rw [run_eql_struct, equalAct2]
  rfl
set_option maxRecDepth 8000 in
set_option maxHeartbeats 4000000 in
theorem lawActions_eq (vA vB : Value) (L : List ActM) (w : World) (hA : ReadsA w vA L) (hB : ReadsA w vB L) (hl : L.length ≤ 2000000) :
    Calls Tryz.prog 19 #[vA, vB] w fun e w' => e = .returned (.bool true) ∧ Below w.heap.size w w' := by
  obtain ⟨ao1, c1, e1⟩ := hA.form
  obtain ⟨ao2, c2, e2⟩ := hB.form
  obtain ⟨n, hn⟩ : ∃ n, L.length = n := ⟨_, rfl⟩
  rw [hn] at e1 e2 hl
  subst e1 e2
  have HA := hid hA
  have HB := hid hB
  have HL := hid hn
  have zn : ((n : Int) == (n : Int)) = true := by simp
  clear hA hB hn
  go_enter Tryz.func19, Tryz.ntmps19
  go_wp2_with fail
  go_loopw [14] (fun z wr => ∃ (k : Nat), z = .int .i64 (k : Int) ∧ k ≤ n ∧ Below w.heap.size w wr) (fun z _ => n - (intOf z).toNat)
  case atStart => exact ⟨0, rfl, Nat.zero_le _, Below.refl _ _⟩
  case round =>
    obtain ⟨k, rfl, hk, hb⟩ := hrel
    have HBR := hid hb
    by_cases hlt : k < n
    · obtain ⟨⟨q, u⟩, hx⟩ : ∃ x, L[k]? = some x := by
        have := HL.out
        exact ⟨L[k]'(by omega), List.getElem?_eq_getElem (by omega)⟩
      obtain ⟨b1, o1, g1, i1, j1⟩ := (HA.out.below hb).at_ hx
      obtain ⟨b2, o2, g2, i2, j2⟩ := (HB.out.below hb).at_ hx
      subst g1 g2
      obtain ⟨p1, hp1⟩ : ∃ p, o1 + k * 2 = p := ⟨_, rfl⟩
      obtain ⟨p2, hp2⟩ : ∃ p, o2 + k * 2 = p := ⟨_, rfl⟩
      rw [hp1] at i1 j1
      rw [hp2] at i2 j2
      simp only at i1 j1 i2 j2
      have hkI : (k : Int) < (n : Int) := by omega
      have hk0 : (0 : Int) ≤ (k : Int) := by omega
      have hkw : IntKind.i64.wrap ((k : Int) + 1) = (k : Int) + 1 := IntWalk.i64_in _ (by omega)
      obtain ⟨W1, hW1⟩ : ∃ W, wr.alloc (.cells #[.int .i64 (q : Int), strV u] 48) = W := ⟨_, rfl⟩
      have hb1 : Below wr.heap.size wr W1 := by rw [← hW1]; exact below_alloc _ _
      have r1 : rowIs W1 wr.heap.size #[.int .i64 (q : Int), strV u] 48 := by rw [← hW1]; exact rowIs_new _ _ _
      have z0 := r1.cell 0
      have z1 := r1.cell 1
      have w2 := kept i2 hb1
      have w3 := kept j2 hb1
      have HB1 := hid (chainP hb hb1)
      have eq1 := neqAct2 (q : Int) ⟨u.toArray⟩
      clear hb hx i2 j2 hb1 r1
      go_wp2_with fail
      try change Code.wp _ _ _ _ (wr.alloc (.cells #[.int .i64 (q : Int), strV u] 48))
      try rw [hW1]
      clear hW1 i1 j1
      go_quiet (fail)
      go_wp2_with fail
      go_roundw
      case rel => exact ⟨k + 1, by go_num, hlt, below_drewN HB1.out _⟩
      case measure => simp [intOf]; omega
    · have hkI : ¬ (k : Int) < (n : Int) := by omega
      clear hb
      go_wp2_with fail
      go_ret
      exact ⟨rfl, HBR.out⟩
end Go.Proofs.YtenijpcjemdhfaaGreatDoor
