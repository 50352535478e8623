/-
  Contracts of package pantrymade: SmallTable.
-/
import Derived.Test.YtenijpcjemdhfaaGreatDoorP10dPlanJ
import Derived.Test.YtenijpcjemdhfaaGreatDoorP10d06
namespace Go.Proofs.YtenijpcjemdhfaaGreatDoor
open Go.RowKit Go.Pantry

/-- what a table may hold, for its Config -/
structure Reach (L : List RuleZ) : Prop where
  len : L.length * 72 ≤ 140737488355328
  heads : ∀ x ∈ L, x.1.heads.length * 16 ≤ 140737488355328
def SmallTPost (w : World) (L : List RuleZ) (e : Ending) (w' : World) : Prop :=
  ∃ b, e = .returned (.bool b) ∧ (b = true → L.length ≤ 12 ∧ ∀ x ∈ L, x.1.host.length ≤ 100 ∧ x.1.heads.length ≤ 10 ∧ ∀ y ∈ x.1.heads, y.length ≤ 100) ∧ Below w.heap.size w w'
set_option maxRecDepth 8000 in
theorem smallTable_any (g : Int) (v : Value) (L : List RuleZ) (w : World) (h : ReadsR w v L) (hr : Reach L) :
    Calls Tryz.prog 21 #[.agg #[.int .i64 g, v]] w (SmallTPost w L) := by
  obtain ⟨ao, cap, hv, hcells⟩ := h.form
  subst hv
  obtain ⟨n, hn⟩ : ∃ n, L.length = n := ⟨_, rfl⟩
  rw [hn] at h
  obtain ⟨W, hW⟩ : ∃ W, w.alloc (.cells #[.int .i64 g, .slice ao n cap] 52) = W := ⟨_, rfl⟩
  have hb : Below w.heap.size w W := by rw [← hW]; exact below_alloc _ _
  have q0 : rowIs W w.heap.size #[.int .i64 g, .slice ao n cap] 52 := by rw [← hW]; exact rowIs_new _ _ _
  have cc := tableConfig_wide g (.slice ao n cap) L W (h.below hb) hr.len hr.heads
  have CC := hid cc
  have HB := hid (And.intro hb hr)
  rw [hn]
  clear h hcells hn hb cc hr
  go_enter Tryz.func21, Tryz.ntmps21
  go_wp2_with (refine wpList_load_row rfl 52 _ rfl w.heap.size rfl 52 _ (0, 0) _ q0 Tryz.underlying52 rfl infoTable ?_)
  refine CC.out.mono ?_
  rintro e w1 ⟨v1, L1, rfl, he1, hr1, -, hb1⟩
  have hl1 : L1.length = L.length := by have := congrArg List.length he1; simpa using this
  have hm : ∀ x ∈ L1, ∃ y ∈ L, y.1 = x.1 := fun x hx => by
    have : x.1 ∈ L.map (·.1) := by rw [← he1]; exact List.mem_map.2 ⟨x, hx, rfl⟩
    exact List.mem_map.1 this
  have cs := smallSites_any v1 L1 w1 hr1 (by rw [hl1]; have := HB.out.2.len; omega) (fun x hx => by
    obtain ⟨y, hy, hyx⟩ := hm x hx
    rw [← hyx]
    have := HB.out.2.heads y hy
    omega)
  have CS := hid cs
  have HB1 := hid (chainP HB.out.1 hb1)
  have HE := hid (And.intro he1 hl1)
  clear he1 hr1 hb1 hl1 hm cs q0 hW
  go_wp2_with fail
  refine CS.out.mono ?_
  rintro e w2 ⟨b, rfl, hbt, hb2⟩
  have HT := hid hbt
  clear hbt
  go_wp2_with fail
  go_ret
  refine ⟨b, rfl, fun hb => ?_, chainP HB1.out hb2⟩
  obtain ⟨h1, h2⟩ := HT.out hb
  refine ⟨by rw [← HE.out.2]; exact h1, fun x hx => ?_⟩
  have : x.1 ∈ L1.map (·.1) := by rw [HE.out.1]; exact List.mem_map.2 ⟨x, hx, rfl⟩
  obtain ⟨y, hy, hyx⟩ := List.mem_map.1 this
  rw [← hyx]
  exact h2 y hy
end Go.Proofs.YtenijpcjemdhfaaGreatDoor
