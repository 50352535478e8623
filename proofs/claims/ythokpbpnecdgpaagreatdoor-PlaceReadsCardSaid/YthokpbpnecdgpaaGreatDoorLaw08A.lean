/-
  The walks of the statements of layer 8: anchor; places that are the same.
-/
import Derived.Test.YthokpbpnecdgpaaGreatDoorPlaceH
namespace Go.Pantry
open Go.RowKit
theorem anchor_place : readP [47, 97, 47, 46, 47, 98, 47, 46, 46, 47, 99, 37, 55, 101, 63, 120, 61, 37, 50, 102] [65, 46, 98, 58, 56, 48] = some ⟨[97, 46, 98], [47, 97, 47, 99, 126], [120, 61, 37, 50, 70], true⟩ := by kernel_rfl
theorem four_of {α : Type} {l : List α} (h : l.length = 4) : ∃ a b c d, l = [a, b, c, d] := by
  match l, h with
  | [a, b, c, d], _ => exact ⟨a, b, c, d, rfl⟩
end Go.Pantry
namespace Go.Proofs.YthokpbpnecdgpaaGreatDoor
open Go.RowKit Go.Pantry

theorem equalPl (a b c : List UInt8) (d : Bool) (w : World) : (Op.equalIn 10000 24 (.agg #[strV a, strV b, strV c, .bool d]) (.agg #[strV a, strV b, strV c, .bool d])).run Tryz.prog w = .ok true w := by
  have hu : Tryz.prog.underlying 24 = some (.struct (Tryz.prog.fieldsOf 24)) := by kernel_rfl
  have hp : Tryz.prog.stoodInHeld 24 = false := by kernel_rfl
  rw [run_equalIn_agg w 9999 _ _ _ hu hp]
  have hf : (Tryz.prog.fieldsOf 24).toList.map (fun x => (x.name == "_", x.type, x.offset)) = [(false, 9, 0), (false, 9, 1), (false, 9, 2), (false, 4, 3)] := by kernel_rfl
  generalize (Tryz.prog.fieldsOf 24).toList = fs at hf
  have hl : fs.length = 4 := by simpa using congrArg List.length hf
  obtain ⟨f0, f1, f2, f3, rfl⟩ : ∃ f0 f1 f2 f3, fs = [f0, f1, f2, f3] := four_of hl
  simp only [List.map_cons, List.map_nil, List.cons.injEq, Prod.mk.injEq, and_true] at hf
  obtain ⟨⟨n0, t0, o0⟩, ⟨n1, t1, o1⟩, ⟨n2, t2, o2⟩, n3, t3, o3⟩ := hf
  have n0' : f0.name ≠ "_" := by simpa using n0
  have n1' : f1.name ≠ "_" := by simpa using n1
  have n2' : f2.name ≠ "_" := by simpa using n2
  have n3' : f3.name ≠ "_" := by simpa using n3
  have p0 : ∀ (x y z u : Value) (W : World), (part 9 #[x, y, z, u] 0).run Tryz.prog W = .ok x W := by intro x y z u W; kernel_rfl
  have p1 : ∀ (x y z u : Value) (W : World), (part 9 #[x, y, z, u] 1).run Tryz.prog W = .ok y W := by intro x y z u W; kernel_rfl
  have p2 : ∀ (x y z u : Value) (W : World), (part 9 #[x, y, z, u] 2).run Tryz.prog W = .ok z W := by intro x y z u W; kernel_rfl
  have p3 : ∀ (x y z u : Value) (W : World), (part 4 #[x, y, z, u] 3).run Tryz.prog W = .ok u W := by intro x y z u W; kernel_rfl
  have qs : ∀ (x : List UInt8) (W : World), (Op.equalIn 9999 9 (strV x) (strV x)).run Tryz.prog W = .ok true W := by
    intro x W
    have hs : Tryz.prog.underlying 9 = some .string := Tryz.underlying9
    have h := run_equalIn_string (P := Tryz.prog) W 9998 9 ⟨x.toArray⟩ ⟨x.toArray⟩ hs
    simpa using h
  have qb : ∀ (x : Bool) (W : World), (Op.equalIn 9999 4 (.bool x) (.bool x)).run Tryz.prog W = .ok true W := by
    intro x W
    have hs : Tryz.prog.underlying 4 = some .bool := Tryz.underlying4
    have h := run_equalIn_bool (P := Tryz.prog) W 9998 4 x x hs
    simpa using h
  simp [Op.eqFields, n0', n1', n2', n3', t0, t1, t2, t3, o0, o1, o2, o3, p0, p1, p2, p3, qs, qb]
theorem eqlPl (a b c : List UInt8) (d : Bool) (w : World) : (binOp .eql 24 (.agg #[strV a, strV b, strV c, .bool d]) (.agg #[strV a, strV b, strV c, .bool d])).run Tryz.prog w = .ok (.bool true) w := by
  rw [run_eql_struct, equalPl]
  rfl
/-- A guarded operation that loads a whole row: the operation is looked at first. -/
theorem wpList_load_g {P : Program} {ops : Array Oper} {rest : List Oper} {o : Oper} {a : Act} {w : World} {Q : Exit → Act → World → Prop} (t : TypeId) (x : Operand) (ho : o.op = .load t x) (g : Nat) (hx : a.eval x = .pointer (some ⟨g, 0, none⟩))
    (e : TypeId) (cs : Array Value) (d : TypeDesc) (hg : rowIs w g cs e) (hu : P.underlying t = some d) (hd : (match d with | .struct _ | .array _ _ => true | _ => false) = true) (hi : (P.info? t).map (·.size) = some cs.size)
    (hw : Region.wanted o (yielded ops a.tmps) = true) (h : wpList P ops Q rest (a.put o.dst (.agg cs)) w) : wpList P ops Q (o :: rest) a w :=
  wpList_unguard hw (wpList_load_row rfl t x ho g hx e cs (0, 0) d hg hu hd hi h)
set_option maxRecDepth 100000 in
theorem anchor_any (w : World) (ok : PlaceOk w) :
    Calls Tryz.prog 4 #[] w fun e w' => e = .returned (.bool true) ∧ Below w.heap.size w w' := by
  have cr := Read_any [47, 97, 47, 46, 47, 98, 47, 46, 46, 47, 99, 37, 55, 101, 63, 120, 61, 37, 50, 102] [65, 46, 98, 58, 56, 48] w (by simp) (by simp) ok
  rw [anchor_place] at cr
  have CR : Hid (Calls Tryz.prog 5 #[strV [47, 97, 47, 46, 47, 98, 47, 46, 46, 47, 99, 37, 55, 101, 63, 120, 61, 37, 50, 102], strV [65, 46, 98, 58, 56, 48]] w fun e w' => e = .returned (.tuple #[.agg #[strV [97, 46, 98], strV [47, 97, 47, 99, 126], strV [120, 61, 37, 50, 70], .bool true], .int .i64 0]) ∧ Below w.heap.size w w') := hid cr
  clear cr ok
  have EQ := fun W => eqlPl [97, 46, 98] [47, 97, 47, 99, 126] [120, 61, 37, 50, 70] true W
  go_enter Tryz.func4, Tryz.ntmps4
  go_wp2_with fail
  refine CR.out.mono ?_
  rintro e w1 ⟨rfl, hb1⟩
  have hr1 := rowIs_new w1 #[strV [], strV [], strV [], .bool false] 24
  go_wp2_with (first
    | (refine wpList_store_row rfl 24 _ _ rfl w1.heap.size _ rfl rfl 24 #[strV [], strV [], strV [], .bool false] hr1 infoPlS rfl (onePl _ _ _ _) ?_)
    | (refine wpList_unguard rfl ?_; refine wpList_load_row rfl 24 _ rfl w1.heap.size rfl 24 _ (0, 0) _ (hr1.setRow _) Tryz.underlying24 rfl infoPlS ?_))
  go_ret
  exact ⟨rfl, below_setRow (hb1.trans ((below_alloc w1 _).mono hb1.size)) hb1.size _⟩
theorem strV_self (a : ByteArray) : strV a.data.toList = .string a := by
  show Value.string ⟨a.data.toList.toArray⟩ = _
  rw [Lib.mk_data]
theorem Read_some {t h : List UInt8} {p : PlaceR} (hp : readP t h = some p) (w : World) (ok : PlaceOk w) (ht : t.length ≤ 40000) (hh : h.length ≤ 40000) :
    Calls Tryz.prog 5 #[strV t, strV h] w fun e w' => e = .returned (.tuple #[.agg #[strV p.host, strV p.path, strV p.query, .bool p.has], .int .i64 0]) ∧ Below w.heap.size w w' := by
  have c := Read_any t h w ht hh ok
  rw [hp] at c
  exact c
theorem Read_none {t h : List UInt8} (hp : readP t h = none) (w : World) (ok : PlaceOk w) (ht : t.length ≤ 40000) (hh : h.length ≤ 40000) :
    Calls Tryz.prog 5 #[strV t, strV h] w fun e w' => e = .returned (.tuple #[.agg #[strV [], strV [], strV [], .bool false], .int .i64 25]) ∧ Below w.heap.size w w' := by
  have c := Read_any t h w ht hh ok
  rw [hp] at c
  exact c
theorem Host_some {e H : List UInt8} (hp : hostL e = some H) (w : World) (ok : PlaceOk w) (hs : e.length ≤ 40000) :
    Calls Tryz.prog 7 #[strV e] w fun r w' => r = .returned (.tuple #[strV H, .int .i64 0]) ∧ Below w.heap.size w w' := by
  have c := Host_any e w (by omega) ok.max ok.tab
  rw [hp] at c
  exact c
theorem Host_none {e : List UInt8} (hp : hostL e = none) (w : World) (ok : PlaceOk w) (hs : e.length ≤ 40000) :
    Calls Tryz.prog 7 #[strV e] w fun r w' => r = .returned (.tuple #[strV [], .int .i64 25]) ∧ Below w.heap.size w w' := by
  have c := Host_any e w (by omega) ok.max ok.tab
  rw [hp] at c
  exact c
end Go.Proofs.YthokpbpnecdgpaaGreatDoor
