/-
  The statement PlanNexts: whatever the input, the law answers true and leaves its arguments as they were. No condition but the row's own.
-/
import Derived.Test.YtenijpcjemdhfaaGreatDoorCards
import Derived.Test.YtenijpcjemdhfaaGreatDoorTie
import Derived.Test.YtenijpcjemdhfaaGreatDoorCardAll
import Derived.Test.YtenijpcjemdhfaaGreatDoorP10dLaw10N
import Derived.Test.YtenijpcjemdhfaaGreatDoorCardZip
import Derived.Test.YtenijpcjemdhfaaGreatDoorCardConf
import Derived.Test.YtenijpcjemdhfaaGreatDoorCardReach
import Derived.Test.YtenijpcjemdhfaaGreatDoorTab10
import Derived.Test.YtenijpcjemdhfaaGreatDoorMaxC
namespace Go.Proofs.YtenijpcjemdhfaaGreatDoor.planNexts
open Go.RowKit Go.ChangeShapes Go.WideShapes Go.ChangeAt Go.Pantry
open Go.ChangeMaps (open_string shut_string)

theorem own : ownKnob Tryz.prog.godebug = none := by kernel_rfl
theorem laidOut : laidOutB Tryz.prog = true := by kernel_rfl

set_option maxRecDepth 100000 in
theorem contract (H : Type) (enc : TypeId × Value → H) (W : World) (base : Nat) (args : Array Value) (ds gs : List (DataW H)) (before : List MemPlace)
    (hval : ∀ (j : Nat) t v, Tryz.f6.params[j]? = some t → args[j]? = some v → Value.okWide Tryz.prog W .any base t v)
    (hW : DataW.Whole enc Tryz.prog Tryz.f6.params.toList Rows.planNextsSpec.vars false W args.toList ds gs before) (hL : laidMetH Tryz.prog Rows.planNextsRow.laid W) (hsh : W.ShapedOpen Tryz.prog)
    (hsz : (DataW.weightsEach Tryz.prog (Tryz.f6.params.toList ++ (OpenSpec.ofChange Rows.planNextsSpec).bare.plain.varTypes Tryz.prog) (ds ++ gs)).all (· ≤ reachBytes) = true) :
    Calls Tryz.prog 6 args W fun e W' => ∃ v, e = .returned v ∧ Rows.planNextsSpec.post enc Tryz.prog Tryz.f6 false true false false W args v W' := by
  have hW' := hW
  obtain ⟨p, q, hA0, hV, rfl, hfz, hnd⟩ := hW
  have hA : DataW.TrodAll enc Tryz.prog W 0 (fun _ => true) true Tryz.f6.params.toList args.toList ds p := hA0
  rw [Tryz.params6] at hA hval
  obtain ⟨v0, vs0, d0, ds0, p0, q0, hargs, rfl, rfl, h0, r0⟩ := trodAll_cons hA
  obtain ⟨v1, vs1, d1, ds1, p1, q1, rfl, rfl, rfl, h1, r1⟩ := trodAll_cons r0
  obtain ⟨v2, vs2, d2, ds2, p2, q2, rfl, rfl, rfl, h2, r2⟩ := trodAll_cons r1
  obtain ⟨rfl, rfl, rfl⟩ := trodAll_nil r2
  obtain rfl : args = #[v0, v1, v2] := by cases args; simp_all
  obtain ⟨g0, V0, l0, rfl, hl0⟩ := table_reads Tryz.underlying52 (by kernel_rfl) (by kernel_rfl) Tryz.underlying3 Tryz.underlying50 Tryz.underlying66 (by kernel_rfl) rfl rfl (by kernel_rfl) Tryz.underlying3 ⟨Tryz.underlying64, by kernel_rfl, by kernel_rfl, Tryz.underlying9, Tryz.underlying3, Tryz.underlying3, Tryz.underlying3, Tryz.underlying4, Tryz.underlying4, Tryz.underlying62, Tryz.underlying9, by kernel_rfl⟩ (hval 0 52 v0 rfl rfl) h0
  obtain ⟨V1, l1, rfl, hl1⟩ := config_reads Tryz.underlying25 (by kernel_rfl) (by kernel_rfl) Tryz.underlying23 ⟨Tryz.underlying64, by kernel_rfl, by kernel_rfl, Tryz.underlying9, Tryz.underlying3, Tryz.underlying3, Tryz.underlying3, Tryz.underlying4, Tryz.underlying4, Tryz.underlying62, Tryz.underlying9, by kernel_rfl⟩ (hval 1 25 v1 rfl rfl) h1
  obtain ⟨s2, rfl, rfl, rfl, hs2⟩ := open_string Tryz.underlying9 (hval 2 9 v2 rfl rfl) h2
  have hz0 := table_reach Tryz.underlying52 (by kernel_rfl) (by kernel_rfl) Tryz.underlying50 Tryz.underlying66 (by kernel_rfl) rfl rfl ⟨Tryz.underlying64, by kernel_rfl, by kernel_rfl, Tryz.underlying9, Tryz.underlying3, Tryz.underlying3, Tryz.underlying3, Tryz.underlying4, Tryz.underlying4, Tryz.underlying62, Tryz.underlying9, by kernel_rfl⟩ (hval 0 52 _ rfl rfl) h0 (fun x hx => by
    have := List.all_eq_true.1 hsz _ (DataW.weights_mem_each (j := 0) (t := 52) rfl rfl x hx)
    simpa using this) hl0.1
  have hz : Reach l0 := ⟨by have h1 : l0.length * 80 ≤ 140737488351232 := hz0.1; omega, fun x hx => by have h1 : x.1.heads.length * 16 ≤ 140737488351232 := hz0.2 x hx; omega⟩
  exact law_contract laidOut (by kernel_rfl) rfl Tryz.underlying4 rfl hW' rfl (planNexts_walk g0 V0 l0 V1 l1 s2 W (maxOk_of_shaped hsh) (tab10_of hL (by kernel_rfl)) hl0 hl1 hs2 hz)

theorem laid_met (os : Os) : laidMetH Tryz.prog Rows.planNextsRow.laid ((World.laidAll Tryz.prog os Rows.planNextsRow.laid).forCall (fun _ _ => 0) ⟨#[], #[.agg #[.int .i64 0, .slice none 0 0], .agg #[.slice none 0 0], .string .empty], []⟩).memory := by
  rw [MakeChecks.laidMetH_plain _ _ _ (by kernel_rfl)]
  exact laidMet_laidAll _ (by kernel_rfl) (by kernel_rfl)
theorem reads (os : Os) {H : Type} (enc : TypeId × Value → H) : ∃ places, DataW.whole enc Tryz.prog ((World.laidAll Tryz.prog os Rows.planNextsRow.laid).forCall (fun _ _ => 0) ⟨#[], #[.agg #[.int .i64 0, .slice none 0 0], .agg #[.slice none 0 0], .string .empty], []⟩).memory Tryz.f6.params.toList Rows.planNextsSpec.vars false #[.agg #[.int .i64 0, .slice none 0 0], .agg #[.slice none 0 0], .string .empty].toList 8 = some ([.agg [.lit (.int .i64 0), .nil], .agg [.nil], .lit (.string [])], [], places) :=
  ⟨[], by kernel_rfl⟩

set_option maxRecDepth 100000 in
theorem lifted (os : Os) (started : os.Started) (H : Type) (enc : TypeId × Value → H) (F : Stop.Interp) :
    ReturnsInHanded {} Tryz.checked os 6 .any ((OpenSpec.ofChange Rows.planNextsSpec).preRow enc Tryz.prog Tryz.f6 Rows.planNextsRow.domain false Rows.planNextsRow.laid) (((OpenSpec.ofChange Rows.planNextsSpec).at F).post enc Tryz.prog Tryz.f6 false true false false) := by
  obtain ⟨places, hx⟩ := reads os enc
  refine returnsInHanded_of_row (C := Tryz.checked) (s := OpenSpec.ofChange Rows.planNextsSpec) own started (by kernel_rfl) Tryz.func6
    (Go.Pantry.witness_row_atZip (enc := enc) (C := Tryz.checked) false (World.laidAll Tryz.prog os Rows.planNextsRow.laid) #[.agg #[.int .i64 0, .slice none 0 0], .agg #[.slice none 0 0], .string .empty] (World.laidAll_os _ _ _) (by kernel_rfl) (by kernel_rfl) (by kernel_rfl)
      (OpenSpec.preRow_of_cond 8 hx (by kernel_rfl) (fun k hk => by cases hk) (by kernel_rfl) (laid_met os))) ?_
  intro W base args ds gs before hval hW _ _ hsz hL hsh _
  exact contract H enc W base args ds gs before hval hW hL hsh hsz

theorem said : Rows.PlanNextsSaid :=
  OpenClaim.holds_of_cond 6 Tryz.f6 rfl rfl rfl rfl rfl rfl rfl ⟨rfl, rfl, rfl, rfl, rfl⟩ rfl rfl rfl rfl rfl (by kernel_rfl) Tryz.func6 (by kernel_rfl)
    (of_decide_eq_true (by kernel_rfl)) (by unfold Func.isWrapper; first | (rw [if_pos (by decide +kernel)]; kernel_rfl) | (rw [if_neg (by decide +kernel)]; exact ⟨rfl, rfl⟩))
    (fun os started H enc _ F => by rw [OpenClaim.pre_eq_preRow]; exact lifted os started H enc F)

theorem plain (f : FuncId) (fn : Func) (hf : Tryz.pinned.checked.prog.funcNamed "pantry/pantrylaw10.PlanNexts" = some f) (hfn : Tryz.pinned.checked.prog.funcs[f]? = some fn) :
    ∀ (j : Nat) t, fn.params[j]? = some t → Tryz.pinned.checked.prog.wantsStandIn t = false := by
  obtain rfl : f = 6 := Option.some.inj ((show Tryz.prog.funcNamed "pantry/pantrylaw10.PlanNexts" = some 6 by kernel_rfl).symm.trans hf) |>.symm
  obtain rfl : fn = Tryz.f6 := (Option.some.inj (Tryz.func6.symm.trans hfn)).symm
  intro j t ht
  have hm : t ∈ Tryz.f6.params.toList := by simpa using Array.mem_of_getElem? ht
  have hall : (Tryz.f6.params.toList.all fun u => !Tryz.prog.wantsStandIn u) = true := by kernel_rfl
  exact (show Tryz.prog.wantsStandIn t = false by simpa using List.all_eq_true.1 hall t hm)

theorem proved : Rows.PlanNextsCardSaid :=
  Claim7.holds_tied_plain_at .later [] _ _ _ _ said (fun _ h => by cases h) (by kernel_rfl) (fun _ h => by cases h) planNexts_row_tie rfl ⟨rfl, rfl⟩ (by kernel_rfl) rfl (fun f fn hf hfn => ⟨by kernel_rfl, plain f fn hf hfn⟩) (by kernel_rfl)
end Go.Proofs.YtenijpcjemdhfaaGreatDoor.planNexts
