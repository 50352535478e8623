/-
  Two structs of what is said that are the same compare as the same.
-/
import Derived.Test.YtofkiihajhkmdaaDoorProg
import Derived.Test.YtofkiihajhkmdaaDoorCtlV
import Derived.Laws.StructEq
namespace Go.Pantry
open Go.RowKit
theorem eqFields_self {P : Program} (W : World) (d : Nat) (xs : Array Value) : ∀ fs : List Field, (∀ f ∈ fs, f.name ≠ "_" ∧ ∃ v, (part f.type xs f.offset).run P W = .ok v W ∧ (Op.equalIn d f.type v v).run P W = .ok true W) → (Op.eqFields d xs xs fs).run P W = .ok true W := by
  intro fs
  induction fs with
  | nil => intro _; rfl
  | cons f fs ih =>
    intro h
    obtain ⟨h1, v, h2, h3⟩ := h f (List.mem_cons_self ..)
    have h4 := ih (fun g hg => h g (List.mem_cons_of_mem _ hg))
    simp [Op.eqFields, h1, h2, h3, h4]
end Go.Pantry
namespace Go.Proofs.YtofkiihajhkmdaaDoor
open Go.RowKit Go.Pantry

theorem guard_ctl : Tryd.prog.eqGuardType Tryd.prog.depth 29 = false := by kernel_rfl
theorem eql_ctl (c : Ctl) (w : World) : (binOp .eql 29 (ctlV c) (ctlV c)).run Tryd.prog w = .ok (.bool true) w := by
  have hu : Tryd.prog.underlying 29 = some (.struct (Tryd.prog.fieldsOf 29)) := by kernel_rfl
  have hp : Tryd.prog.stoodInHeld 29 = false := by kernel_rfl
  rw [run_eql_struct, run_equalIn_agg w 9999 _ _ _ hu hp]
  have hf : (Tryd.prog.fieldsOf 29).toList.map (fun x => (x.name == "_", x.type, x.offset)) = [(false, 4, 0), (false, 4, 1), (false, 4, 2), (false, 4, 3), (false, 4, 4), (false, 4, 5), (false, 3, 6), (false, 3, 7), (false, 3, 8), (false, 3, 9)] := by kernel_rfl
  have hall : ∀ q ∈ [(false, 4, 0), (false, 4, 1), (false, 4, 2), (false, 4, 3), (false, 4, 4), (false, 4, 5), (false, 3, 6), (false, 3, 7), (false, 3, 8), (false, 3, 9)], q.1 = false ∧ ∃ v, (part q.2.1 #[.bool c.noStore, .bool c.noCache, .bool c.priv, .bool c.pub, .bool c.must, .bool c.only, .int .i64 (intO c.maxAge), .int .i64 (intO c.shared), .int .i64 (intO c.minFresh), .int .i64 (intO c.maxStale)] q.2.2).run Tryd.prog w = .ok v w ∧ (Op.equalIn 9999 q.2.1 v v).run Tryd.prog w = .ok true w := by
    intro q hq
    have eb : ∀ b : Bool, (Op.equalIn 9999 4 (.bool b) (.bool b)).run Tryd.prog w = .ok true w := fun b => by rw [run_equalIn_bool w 9998 _ b b Tryd.underlying4]; simp
    have ei : ∀ n : Int, (Op.equalIn 9999 3 (.int .i64 n) (.int .i64 n)).run Tryd.prog w = .ok true w := fun n => by rw [run_equalIn_int w 9998 _ .i64 _ n n Tryd.underlying3]; simp
    simp only [List.mem_cons, List.not_mem_nil, or_false] at hq
    rcases hq with rfl | rfl | rfl | rfl | rfl | rfl | rfl | rfl | rfl | rfl
    · exact ⟨rfl, .bool c.noStore, by kernel_rfl, eb _⟩
    · exact ⟨rfl, .bool c.noCache, by kernel_rfl, eb _⟩
    · exact ⟨rfl, .bool c.priv, by kernel_rfl, eb _⟩
    · exact ⟨rfl, .bool c.pub, by kernel_rfl, eb _⟩
    · exact ⟨rfl, .bool c.must, by kernel_rfl, eb _⟩
    · exact ⟨rfl, .bool c.only, by kernel_rfl, eb _⟩
    · exact ⟨rfl, .int .i64 (intO c.maxAge), by kernel_rfl, ei _⟩
    · exact ⟨rfl, .int .i64 (intO c.shared), by kernel_rfl, ei _⟩
    · exact ⟨rfl, .int .i64 (intO c.minFresh), by kernel_rfl, ei _⟩
    · exact ⟨rfl, .int .i64 (intO c.maxStale), by kernel_rfl, ei _⟩
  rw [eqFields_self w 9999 _ _ (fun f hm => by
    have hq := hall (f.name == "_", f.type, f.offset) (by rw [← hf]; exact List.mem_map.2 ⟨f, hm, rfl⟩)
    exact ⟨by simpa using hq.1, hq.2⟩)]
  rfl

theorem guard_refCtl : Tryd.prog.eqGuardType Tryd.prog.depth 27 = false := by kernel_rfl
theorem eql_refCtl (c : Ctl) (w : World) : (binOp .eql 27 (ctlV c) (ctlV c)).run Tryd.prog w = .ok (.bool true) w := by
  have hu : Tryd.prog.underlying 27 = some (.struct (Tryd.prog.fieldsOf 27)) := by kernel_rfl
  have hp : Tryd.prog.stoodInHeld 27 = false := by kernel_rfl
  rw [run_eql_struct, run_equalIn_agg w 9999 _ _ _ hu hp]
  have hf : (Tryd.prog.fieldsOf 27).toList.map (fun x => (x.name == "_", x.type, x.offset)) = [(false, 4, 0), (false, 4, 1), (false, 4, 2), (false, 4, 3), (false, 4, 4), (false, 4, 5), (false, 3, 6), (false, 3, 7), (false, 3, 8), (false, 3, 9)] := by kernel_rfl
  have hall : ∀ q ∈ [(false, 4, 0), (false, 4, 1), (false, 4, 2), (false, 4, 3), (false, 4, 4), (false, 4, 5), (false, 3, 6), (false, 3, 7), (false, 3, 8), (false, 3, 9)], q.1 = false ∧ ∃ v, (part q.2.1 #[.bool c.noStore, .bool c.noCache, .bool c.priv, .bool c.pub, .bool c.must, .bool c.only, .int .i64 (intO c.maxAge), .int .i64 (intO c.shared), .int .i64 (intO c.minFresh), .int .i64 (intO c.maxStale)] q.2.2).run Tryd.prog w = .ok v w ∧ (Op.equalIn 9999 q.2.1 v v).run Tryd.prog w = .ok true w := by
    intro q hq
    have eb : ∀ b : Bool, (Op.equalIn 9999 4 (.bool b) (.bool b)).run Tryd.prog w = .ok true w := fun b => by rw [run_equalIn_bool w 9998 _ b b Tryd.underlying4]; simp
    have ei : ∀ n : Int, (Op.equalIn 9999 3 (.int .i64 n) (.int .i64 n)).run Tryd.prog w = .ok true w := fun n => by rw [run_equalIn_int w 9998 _ .i64 _ n n Tryd.underlying3]; simp
    simp only [List.mem_cons, List.not_mem_nil, or_false] at hq
    rcases hq with rfl | rfl | rfl | rfl | rfl | rfl | rfl | rfl | rfl | rfl
    · exact ⟨rfl, .bool c.noStore, by kernel_rfl, eb _⟩
    · exact ⟨rfl, .bool c.noCache, by kernel_rfl, eb _⟩
    · exact ⟨rfl, .bool c.priv, by kernel_rfl, eb _⟩
    · exact ⟨rfl, .bool c.pub, by kernel_rfl, eb _⟩
    · exact ⟨rfl, .bool c.must, by kernel_rfl, eb _⟩
    · exact ⟨rfl, .bool c.only, by kernel_rfl, eb _⟩
    · exact ⟨rfl, .int .i64 (intO c.maxAge), by kernel_rfl, ei _⟩
    · exact ⟨rfl, .int .i64 (intO c.shared), by kernel_rfl, ei _⟩
    · exact ⟨rfl, .int .i64 (intO c.minFresh), by kernel_rfl, ei _⟩
    · exact ⟨rfl, .int .i64 (intO c.maxStale), by kernel_rfl, ei _⟩
  rw [eqFields_self w 9999 _ _ (fun f hm => by
    have hq := hall (f.name == "_", f.type, f.offset) (by rw [← hf]; exact List.mem_map.2 ⟨f, hm, rfl⟩)
    exact ⟨by simpa using hq.1, hq.2⟩)]
  rfl
end Go.Proofs.YtofkiihajhkmdaaDoor
