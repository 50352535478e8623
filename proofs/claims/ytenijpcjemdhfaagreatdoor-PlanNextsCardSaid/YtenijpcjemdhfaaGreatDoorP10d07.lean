/-
  Several texts in one: FindA, FindB, PlanB, PlanC, PlanF, PlanG, PlanH, PlanI, Ref10A.
-/
import Derived.Test.YtenijpcjemdhfaaGreatDoorP10d06
import Derived.Test.YtenijpcjemdhfaaGreatDoorPureR
import Derived.Test.YtenijpcjemdhfaaGreatDoorP10d05
import Derived.Deep.RegionHeld3
import Derived.Test.YtenijpcjemdhfaaGreatDoorHeldK
import Derived.Maps.OwnOps
import Derived.Maps.Views
import Derived.StringKeys
import Derived.Test.YtenijpcjemdhfaaGreatDoorHeldA
import Derived.Test.YtenijpcjemdhfaaGreatDoorP10d04
import Derived.Test.YtenijpcjemdhfaaGreatDoorInfo
/-
  Contracts: slices.Clone of texts; of package conf: Find.
-/
namespace Go.Proofs.YtenijpcjemdhfaaGreatDoor
open Go.RowKit Go.Pantry

theorem run_eql_nil9 {P : Program} (w : World) (t e : TypeId) (a : Option Addr) (l c : Nat) (h : P.underlying t = some (.slice e)) : (binOp .eql t (.slice a l c) (.slice none 0 0)).run P w = .ok (.bool a.isNone) w := by
  have h1 : ∀ d : Nat, (Op.equalIn (d + 1) t (.slice a l c) (.slice none 0 0)).run P w = .ok a.isNone w := fun d => by
    cases a <;> simp [Op.equalIn, run_underlying h]
  simp only [binOp]
  simp [Op.equal, Op.maxDepth, h1 9999]
set_option maxRecDepth 8000 in
theorem cloneS_wide (v : Value) (L : List (List UInt8)) (w : World) (h : Reads w v (L.map strV)) (hl : L.length * 16 ≤ 140737488355328) :
    Calls Tryz.prog 49 #[v] w fun e w' => ∃ v', e = .returned v' ∧ w'.ownsRow w.heap.size 9 1 v' L.length (L.map strV) ∧ Below w.heap.size w w' := by
  have HR := hid h
  obtain ⟨ao, cap, rfl, hc, hz⟩ := h
  have HC := hid hz
  rw [List.length_map] at HR ⊢
  cases ao with
  | none =>
    have hnil : L = [] := by
      cases L with
      | nil => rfl
      | cons y ys => obtain ⟨b, off, he, _⟩ := hc 0 _ rfl; cases he
    subst hnil
    obtain rfl := hz rfl
    have qn := fun W => run_eql_nil9 (P := Tryz.prog) W 62 9 none 0 0 Tryz.underlying62
    simp only [Option.isNone_none] at qn
    clear hc hz
    rw [List.length_nil]
    go_enter Tryz.func49, Tryz.ntmps49
    go_wp2_with fail
    go_ret
    exact ⟨_, rfl, World.ownsRow_nil _ _ _ _, Below.refl _ _⟩
  | some ad =>
    clear hc hz
    obtain ⟨n, hn⟩ : ∃ n, L.length = n := ⟨_, rfl⟩
    rw [hn] at HR hl
    have qn := fun W => run_eql_nil9 (P := Tryz.prog) W 62 9 (some ad) n cap Tryz.underlying62
    simp only [Option.isNone_some] at qn
    go_enter Tryz.func49, Tryz.ntmps49
    rw [hn]
    have hlit : (w.alloc (.cells #[] 9)).ownsRow w.heap.size 9 1 (.slice (some ⟨w.heap.size, 0, none⟩) 0 0) 0 [] := World.ownsRow_lit w #[] 0 (Nat.le_refl _) (by unfold maxLen; omega) rfl
    have hbW : Below w.heap.size w (w.alloc (.cells #[] 9)) := below_alloc _ _
    have hrW := HR.out.below hbW
    have h1 : ∀ u ∈ L.map strV, u.oneCell' = true := fun u hu => by
      obtain ⟨x, _, rfl⟩ := List.mem_map.1 hu; rfl
    have hln : 0 + (L.map strV).length ≤ maxLen := by rw [List.length_map]; unfold maxLen; omega
    have hlz : (0 + (L.map strV).length) * 16 ≤ 140737488355328 := by rw [List.length_map]; omega
    have HN9 := hid hn
    clear hn
    go_wp2_with (at_builtin; go_must (refine wpList_append_allZ _ rfl _ _ 62 rfl w.heap.size 9 Tryz.underlying62 infoStr rfl rfl hlit hrW h1 rfl hln hlz hbW.size ?_); intro v' w3 hown3 hg3 hb3)
    go_ret
    rw [List.nil_append] at hown3
    rw [List.length_map, Nat.zero_add, HN9.out] at hown3
    exact ⟨_, rfl, hown3, hbW.trans hb3⟩
theorem cloneS_any (v : Value) (L : List (List UInt8)) (w : World) (h : Reads w v (L.map strV)) (hl : L.length ≤ 1000000) :
    Calls Tryz.prog 49 #[v] w fun e w' => ∃ v', e = .returned v' ∧ w'.ownsRow w.heap.size 9 1 v' L.length (L.map strV) ∧ Below w.heap.size w w' := cloneS_wide v L w h (by omega)
end Go.Proofs.YtenijpcjemdhfaaGreatDoor
/-
  Contract of package conf: Find.
-/
namespace Go.Proofs.YtenijpcjemdhfaaGreatDoor
open Go.RowKit Go.Pantry

/-- the first site of that host -/
def FindPost (w : World) (L : List (SiteZ × Value)) (host : List UInt8) (e : Ending) (w' : World) : Prop :=
  (match L.find? (fun x => x.1.host == host) with
    | some x => ∃ hv, e = .returned (.tuple #[.agg (rowZ hv x.1), .bool true]) ∧ Reads w' hv (x.1.heads.map strV)
    | none => e = .returned (.tuple #[.agg zeroSite, .bool false])) ∧ Below w.heap.size w w'
set_option maxRecDepth 8000 in
theorem find_any (v : Value) (L : List (SiteZ × Value)) (host : List UInt8) (w : World) (h : ReadsP w v L) (hl : L.length ≤ 1000000) (hh : ∀ x ∈ L, x.1.heads.length ≤ 1000000) :
    Calls Tryz.prog 35 #[.agg #[v], strV host] w (FindPost w L host) := by
  obtain ⟨n, hn⟩ : ∃ n, L.length = n := ⟨_, rfl⟩
  obtain ⟨ao, c, e1, f1⟩ := h.form
  rw [hn] at e1
  subst e1
  have HR := hid h
  have HH := hid hh
  have HL := hid hn
  have hnl : n ≤ 1000000 := by omega
  obtain ⟨A, hA⟩ : ∃ A, w.heap.size + 1 = A := ⟨_, rfl⟩
  have J0 : Hid (rowIs ((w.alloc (.cells #[.slice ao n c] 25)).alloc (.cells zeroSite 64)) A zeroSite 64 ∧ Below w.heap.size w ((w.alloc (.cells #[.slice ao n c] 25)).alloc (.cells zeroSite 64))) :=
    ⟨rowIs_new_at _ _ _ _ (by simp; omega), chainP (below_alloc _ _) (below_alloc _ _)⟩
  have HA := hid hA
  have j1 := ((rowIs_new w #[.slice ao n c] 25).below (below_alloc _ (.cells zeroSite 64))).cell 0
  clear h hn hh hl f1 hA
  go_enter Tryz.func35, Tryz.ntmps35
  go_wp2_with fail
  clear j1
  go_loopw [11] (fun z wr => ∃ (k : Nat), z = .int .i64 (k : Int) ∧ k ≤ n ∧ rowIs wr A zeroSite 64 ∧ Below w.heap.size w wr ∧ (L.take k).find? (fun x => x.1.host == host) = none) (fun z _ => n - (intOf z).toNat)
  case atStart => exact ⟨0, rfl, Nat.zero_le _, J0.out.1, J0.out.2, rfl⟩
  case round =>
    clear J0
    obtain ⟨k, rfl, hk, hra, hb, hf⟩ := hrel
    have HB := hid (And.intro hra (And.intro hb hf))
    by_cases hlt : k < n
    · obtain ⟨⟨s, hv⟩, hx⟩ : ∃ x, L[k]? = some x := by
        have := HL.out
        exact ⟨L[k]'(by omega), List.getElem?_eq_getElem (by omega)⟩
      obtain ⟨ah, ch, hfv⟩ := (HR.out.heads _ (List.mem_of_getElem? hx)).form
      simp only at hfv
      obtain ⟨nh, hnh⟩ : ∃ nh, (s.heads.map strV).length = nh := ⟨_, rfl⟩
      rw [hnh] at hfv
      subst hfv
      obtain ⟨b1, o1, g1, i1⟩ := (HR.out.below hb).at_ hx
      subst g1
      have hkI : (k : Int) < (n : Int) := by omega
      have hk0 : (0 : Int) ≤ (k : Int) := by omega
      have hkw : IntKind.i64.wrap ((k : Int) + 1) = (k : Int) + 1 := IntWalk.i64_in _ (by omega)
      obtain ⟨p1, hp1⟩ : ∃ p, o1 + k * 7 = p := ⟨_, rfl⟩
      rw [hp1] at i1
      have y0 := i1 0 _ rfl
      have y1 := i1 1 _ rfl
      have y2 := i1 2 _ rfl
      have y3 := i1 3 _ rfl
      have y4 := i1 4 _ rfl
      have y5 := i1 5 _ rfl
      have y6 := i1 6 _ rfl
      rw [Nat.add_zero] at y0
      have hhd := (HR.out.heads _ (List.mem_of_getElem? hx)).below hb
      have HX := hid (And.intro hx hhd)
      have hhl : s.heads.length ≤ 1000000 := HH.out _ (List.mem_of_getElem? hx)
      clear hb hx i1 hra hf hnh hhd
      by_cases hm : s.host = host
      · subst hm
        have z1 : (s.host == s.host) = true := by simp
        go_wp2_with fail
        change Calls _ _ _ (wr.alloc (.cells (rowZ (.slice ah nh ch) s) 64)) _
        obtain ⟨W1, hW1⟩ : ∃ W, wr.alloc (.cells (rowZ (.slice ah nh ch) s) 64) = W := ⟨_, rfl⟩
        have hb1 : Below wr.heap.size wr W1 := by rw [← hW1]; exact below_alloc _ _
        have hr1 : rowIs W1 wr.heap.size (rowZ (.slice ah nh ch) s) 64 := by rw [← hW1]; exact rowIs_new _ _ _
        rw [hW1]
        clear y0 y1 y2 y3 y4 y5 y6 hW1
        refine (cloneS_any (.slice ah nh ch) s.heads W1 (HX.out.2.below hb1) hhl).mono ?_
        rintro e w3 ⟨v3, rfl, hr3, hb3⟩
        obtain ⟨a3, c3, hf3⟩ := ownsRow_formN hr3
        obtain ⟨n3, hn3⟩ : ∃ n3, s.heads.length = n3 := ⟨_, rfl⟩
        rw [hn3] at hf3 hr3
        subst hf3
        have HBB := hid (And.intro (hb1.trans (hb3.mono hb1.size)) (And.intro (chainP (chainP HB.out.2.1 hb1) hb3) hr1.lt))
        have hrx := hr1.below hb3
        have hra := (HB.out.1.below hb1).below hb3
        have hne : A ≠ wr.heap.size := by have := HA.out; have := HB.out.1.lt; omega
        have hra2 := hra.setCell_block (g' := wr.heap.size) hne 6 (.slice a3 n3 c3)
        have hrx2 := hrx.setCell 6 (.slice a3 n3 c3)
        have c6 := hrx.cell 6
        have f6 := hrx.free 6
        have HR3 := hid hr3
        rw [← HA.out] at hra2
        clear hn3 hr3 hra hb1 hb3 hr1
        go_wp2_with (first
          | (refine wpList_load_row rfl 64 _ rfl wr.heap.size rfl 64 _ (0, 0) _ hrx2 Tryz.underlying64 rfl infoSite ?_)
          | (refine wpList_store_row rfl 64 _ _ rfl (w.heap.size + 1) _ rfl rfl 64 _ hra2 infoSite rfl (oneSite _ _ _ _ _ _ _ _ _) ?_))
        refine bodyPost_ret (results_row2 Tryz.results35 _ _ (w.heap.size + 1) _ rfl (hra2.setRow _) Tryz.underlying64 rfl infoSite) rfl ?_
        have kk := ((Kept.refl (fun g => g = wr.heap.size ∨ g = w.heap.size + 1) w3).setCell (i := 6) (.inl (.inl rfl)) (.slice a3 n3 c3)).setRow (g := w.heap.size + 1) (.inl (.inr rfl)) (rowZ (.slice a3 n3 c3) s)
        have ho := ownsRow_kept HR3.out kk (fun g hg hX => by
          have h1 := (HR3.out.lt _ hg).1
          have h2 := HBB.out.2.2
          have h3 := HB.out.1.lt
          have h4 := HA.out
          rcases hX with e | e <;> omega)
        have hfd : L.find? (fun x => x.1.host == s.host) = some (s, .slice ah nh ch) := by
          obtain ⟨hkl, hkx⟩ := List.getElem?_eq_some_iff.1 HX.out.1
          rw [← List.take_append_drop k L, List.find?_append, HB.out.2.2, Option.none_or, List.drop_eq_getElem_cons hkl, hkx]
          simp
        refine ⟨?_, ?_⟩
        · rw [hfd]
          exact ⟨.slice a3 n3 c3, rfl, ho.reads⟩
        · refine ((Kept.of_below (X := fun g => g = wr.heap.size ∨ g = w.heap.size + 1) HBB.out.2.1).setCell (i := 6) (.inl (.inl rfl)) (.slice a3 n3 c3)).setRow (g := w.heap.size + 1) (.inl (.inr rfl)) (rowZ (.slice a3 n3 c3) s) |>.below (fun g h _ => ?_) (Nat.le_refl _)
          have := HB.out.2.1.size
          rcases h with e | e <;> omega
      · have z1 : (s.host == host) = false := by simp [hm]
        go_wp2_with fail
        go_roundw
        case rel =>
          refine ⟨k + 1, by go_num, hlt, HB.out.1.below (below_alloc _ _), chainP HB.out.2.1 (below_alloc _ _), ?_⟩
          rw [List.take_add_one, HX.out.1]
          simp [HB.out.2.2, hm]
        case measure => simp [intOf]; omega
    · have hkn : k = n := by omega
      have hfn : L.find? (fun x => x.1.host == host) = none := by
        have := HB.out.2.2
        rwa [List.take_of_length_le (by have := HL.out; omega)] at this
      rw [← HA.out] at hra
      clear hb hf
      go_wp2_with (refine wpList_store_row rfl 64 _ _ rfl (w.heap.size + 1) _ rfl rfl 64 _ hra infoSite rfl (oneSite _ _ _ _ _ _ _ _ _) ?_)
      refine bodyPost_ret (results_row2 Tryz.results35 _ _ (w.heap.size + 1) _ rfl (hra.setRow _) Tryz.underlying64 rfl infoSite) rfl ?_
      refine ⟨?_, below_setRow HB.out.2.1 (by omega) _⟩
      rw [hfn]; rfl
end Go.Proofs.YtenijpcjemdhfaaGreatDoor
/-
  Contracts of package plan: kind, actions.
-/
namespace Go.Pantry
open Go.RowKit
theorem findS_map (L : List (SiteZ × Value)) (h : List UInt8) : findS (L.map (·.1)) h = (L.find? (fun x => x.1.host == h)).map (·.1) := by
  unfold findS
  rw [List.find?_map]
  rfl
theorem kind_none {L : List (SiteZ × Value)} {s : SiteZ} (h : L.find? (fun x => x.1.host == s.host) = none) : kindP (L.map (·.1)) s = 3 := by
  unfold kindP
  rw [findS_map, h]
  rfl
theorem kind_some {L : List (SiteZ × Value)} {s : SiteZ} {x : SiteZ × Value} (h : L.find? (fun x => x.1.host == s.host) = some x) : kindP (L.map (·.1)) s = if sameR x.1 s then 0 else 1 := by
  unfold kindP
  rw [findS_map, h]
  rfl
end Go.Pantry
namespace Go.Proofs.YtenijpcjemdhfaaGreatDoor
open Go.RowKit Go.Pantry

set_option maxRecDepth 100000 in
set_option maxHeartbeats 4000000 in
theorem kind_any (v : Value) (L : List (SiteZ × Value)) (hv : Value) (s : SiteZ) (w : World) (h : ReadsP w v L) (hr : Reads w hv (s.heads.map strV)) (hl : L.length ≤ 1000000) (hh : ∀ x ∈ L, x.1.heads.length ≤ 1000000) (hs : s.heads.length ≤ 1000000) :
    Calls Tryz.prog 66 #[.agg #[v], .agg (rowZ hv s)] w fun e w' => e = .returned (.int .i64 ((kindP (L.map (·.1)) s : Nat) : Int)) ∧ Below w.heap.size w w' := by
  obtain ⟨ao, c, e1, f1⟩ := h.form
  obtain ⟨n, hn⟩ : ∃ n, L.length = n := ⟨_, rfl⟩
  rw [hn] at e1
  subst e1
  obtain ⟨a1, c1, e1⟩ := hr.form
  obtain ⟨m, hm⟩ : ∃ n, (s.heads.map strV).length = n := ⟨_, rfl⟩
  rw [hm] at e1
  subst e1
  obtain ⟨W, hW⟩ : ∃ W, (w.alloc (.cells #[.slice ao n c] 25)).alloc (.cells (rowZ (.slice a1 m c1) s) 64) = W := ⟨_, rfl⟩
  have hb : Below w.heap.size w W := by rw [← hW]; exact chainP (below_alloc _ _) (below_alloc _ _)
  have q1 : rowIs W w.heap.size #[.slice ao n c] 25 := by rw [← hW]; exact (rowIs_new _ _ _).below (below_alloc _ _)
  have q2 : rowIs W (w.heap.size + 1) (rowZ (.slice a1 m c1) s) 64 := by rw [← hW]; exact rowIs_new_at _ _ _ _ (by simp)
  have cf := find_any (.slice ao n c) L s.host W (h.below hb) hl hh
  have CF := hid cf
  have HH := hid (And.intro hh (And.intro hs (And.intro (hr.below hb) (And.intro q2 hb))))
  have y0 := q2.cell 0
  clear h hr f1 hn hm hb q2 cf hh hs
  go_enter Tryz.func66, Tryz.ntmps66
  go_wp2_with (refine wpList_load_row rfl 25 _ rfl w.heap.size rfl 25 _ (0, 0) _ q1 Tryz.underlying25 rfl infoCfg ?_)
  refine CF.out.mono ?_
  rintro e w1 ⟨hp, hb1⟩
  clear y0 q1 hW
  have HB1 := hid (chainP HH.out.2.2.2.2 hb1)
  have q2 := HH.out.2.2.2.1.below hb1
  have hr1 := HH.out.2.2.1.below hb1
  cases hfd : L.find? (fun x => x.1.host == s.host) with
  | none =>
    rw [hfd] at hp
    simp only at hp
    subst hp
    have HK := hid (kind_none hfd)
    have hbz := hid (below_alloc w1 (.cells zeroSite 64))
    clear hfd hb1 q2 hr1
    go_wp2_with fail
    go_ret
    exact ⟨by rw [HK.out]; rfl, chainP HB1.out hbz.out⟩
  | some x =>
    rw [hfd] at hp
    simp only at hp
    obtain ⟨hv2, rfl, hrh⟩ := hp
    obtain ⟨a2, c2, hf2⟩ := hrh.form
    obtain ⟨n2, hn2⟩ : ∃ n, (x.1.heads.map strV).length = n := ⟨_, rfl⟩
    rw [hn2] at hf2
    subst hf2
    obtain ⟨W4, hW4⟩ : ∃ W, w1.alloc (.cells (rowZ (.slice a2 n2 c2) x.1) 64) = W := ⟨_, rfl⟩
    have r5 : rowIs W4 w1.heap.size (rowZ (.slice a2 n2 c2) x.1) 64 := by rw [← hW4]; exact rowIs_new _ _ _
    have hb4 : Below w1.heap.size w1 W4 := by rw [← hW4]; exact below_alloc _ _
    have r4 := q2.below hb4
    have cs := sameRules_any (.slice a2 n2 c2) (.slice a1 m c1) x.1 s W4 (hrh.below hb4) (hr1.below hb4) (HH.out.1 _ (List.mem_of_find?_eq_some hfd)) HH.out.2.1
    have HK := hid (kind_some hfd)
    obtain ⟨q, hq⟩ : ∃ q, sameR x.1 s = q := ⟨_, rfl⟩
    rw [hq] at cs HK
    have CS := hid cs
    have HB4 := hid (chainP HB1.out hb4)
    clear hfd hb1 q2 hr1 hrh hn2 hb4 cs hq
    cases q
    all_goals
      simp only [if_true, if_false, Bool.false_eq_true] at HK
      go_wp2_with (first
        | (refine wpList_load_row rfl 64 _ rfl w1.heap.size rfl 64 _ (0, 0) _ r5 Tryz.underlying64 rfl infoSite ?_)
        | (refine wpList_load_row rfl 64 _ rfl (w.heap.size + 1) rfl 64 _ (0, 0) _ r4 Tryz.underlying64 rfl infoSite ?_))
      refine CS.out.mono ?_
      rintro e w5 ⟨rfl, hb5⟩
      clear r4 r5 hW4
      go_wp2_with fail
      go_ret
      exact ⟨by rw [HK.out]; rfl, chainP HB4.out hb5⟩
end Go.Proofs.YtenijpcjemdhfaaGreatDoor
/-
  Contracts of package plan: actions: a map of the call's own that tells what becomes of a host.
-/
namespace Go.Pantry
open Go.RowKit
/-- what becomes of a host -/
def actF (A B : List SiteZ) (u : List UInt8) : Option Nat := match findS B u with
  | some s => some (kindP A s)
  | none => if u ∈ A.map (·.host) then some 2 else none
def actF0 (A : List SiteZ) (u : List UInt8) : Option Nat := if u ∈ A.map (·.host) then some 2 else none
theorem actF_nil (A : List SiteZ) : actF A [] = actF0 A := rfl
def putF (f : List UInt8 → Option Nat) (h : List UInt8) (k : Nat) (u : List UInt8) : Option Nat := if u = h then some k else f u
theorem actF0_step {A : List SiteZ} {k : Nat} {s : SiteZ} (h : A[k]? = some s) : actF0 (A.take (k + 1)) = putF (actF0 (A.take k)) s.host 2 := by
  funext u
  unfold actF0 putF
  rw [List.take_add_one, h, List.map_append]
  by_cases e : u = s.host
  · simp [e]
  · simp [e]
theorem actF_step {A B : List SiteZ} {k : Nat} {s : SiteZ} (h : B[k]? = some s) (hn : (B.map (·.host)).Nodup) : actF A (B.take (k + 1)) = putF (actF A (B.take k)) s.host (kindP A s) := by
  have hno : findS (B.take k) s.host = none := by
    rw [findS_none]
    intro hm
    obtain ⟨t, ht, e⟩ := List.mem_map.1 hm
    obtain ⟨i, hi⟩ := List.getElem?_of_mem ht
    rw [List.getElem?_take] at hi
    split at hi
    · rename_i hik
      obtain ⟨hil, rfl⟩ := List.getElem?_eq_some_iff.1 hi
      obtain ⟨hkl, rfl⟩ := List.getElem?_eq_some_iff.1 h
      rw [List.nodup_iff_pairwise_ne, List.pairwise_map, List.pairwise_iff_getElem] at hn
      exact hn i k hil hkl hik e
    · cases hi
  funext u
  unfold putF
  by_cases e : u = s.host
  · subst e
    rw [if_pos rfl]
    unfold actF findS at *
    rw [List.take_add_one, h, List.find?_append, hno]
    simp
  · rw [if_neg e]
    unfold actF findS
    rw [List.take_add_one, h, List.find?_append]
    have e' : (s.host == u) = false := by simpa using Ne.symm e
    simp [e']
theorem actF_get {A B : List SiteZ} {u : List UInt8} (h : (actF A B u).isSome = true) : (actF A B u).getD 0 = kindD A B u := by
  unfold actF kindD at *
  cases hs : findS B u with
  | some s => rfl
  | none =>
    rw [hs] at h
    simp only at h ⊢
    split
    · rfl
    · rename_i hm; rw [if_neg hm] at h; cases h
theorem actF_some (A B : List SiteZ) (u : List UInt8) : (actF A B u).isSome = true ↔ u ∈ hostsP A B := by
  rw [hostsP_mem]
  unfold actF
  cases h : findS B u with
  | some s => exact ⟨fun _ => .inl (by have := findS_host h; exact List.mem_map.2 ⟨s, this.2, this.1⟩), fun _ => rfl⟩
  | none =>
    simp only
    have hb := findS_none.1 h
    split
    · rename_i hm; exact ⟨fun _ => .inr hm, fun _ => rfl⟩
    · rename_i hm
      constructor
      · intro e; cases e
      · rintro (e | e)
        · exact absurd e hb
        · exact absurd e hm
/-- an action, as data -/
def actD (k : Nat) (h : List UInt8) : DataW Unit := .agg [.lit (.int .i64 (k : Int)), .lit (.string h)]
def actR : Value → Option (DataW Unit × List MemPlace)
  | .agg ⟨[.int .i64 k, .string s]⟩ => some (.agg [.lit (.int .i64 k), .lit (.string s.data.toList)], [])
  | _ => none
theorem actR_mk (k : Int) (h : List UInt8) : actR (.agg #[.int .i64 k, strV h]) = some (.agg [.lit (.int .i64 k), .lit (.string h)], []) := rfl
theorem actR_inv {v : Value} {k : Nat} {h : List UInt8} {ps : List MemPlace} (e : actR v = some (actD k h, ps)) : v = .agg #[.int .i64 (k : Int), strV h] := by
  unfold actR actD at e
  split at e
  · rename_i k' s
    simp only [Option.some.injEq, Prod.mk.injEq, DataW.agg.injEq, List.cons.injEq, DataW.lit.injEq, Lit.int.injEq, Lit.string.injEq, true_and, and_true] at e
    obtain ⟨⟨rfl, rfl⟩, -⟩ := e
    rfl
  · cases e
end Go.Pantry
namespace Go.Proofs.YtenijpcjemdhfaaGreatDoor
open Go.RowKit Go.Pantry

open Go.Maps in
/-- block b holds a map of actions: f -/
def ActsAt (w : World) (b n : Nat) (f : List UInt8 → Option Nat) : Prop := ∃ D : DataW Unit, w.ownsMap Tryz.prog 9 actR b n D ∧ IsMap D ∧ ∀ u z, D.atKey (.string u) z = match f u with | none => z | some k => actD k u
theorem ActsAt.kept {X : Nat → Prop} {w w' : World} {b n : Nat} {f : List UInt8 → Option Nat} (h : ActsAt w b n f) (hk : Kept X w w') (hx : ¬ X b) : ActsAt w' b n f := by
  obtain ⟨D, h1, h2, h3⟩ := h
  refine ⟨D, ?_, h2, h3⟩
  obtain ⟨es, clock, a1, a2, a3, a4⟩ := h1
  exact ⟨es, clock, (hk.2 b (Array.getElem?_eq_some_iff.1 a1).1 hx).trans a1, a2, a3, a4⟩
theorem ActsAt.below {w w' : World} {b n : Nat} {f : List UInt8 → Option Nat} (h : ActsAt w b n f) (hb : Below w.heap.size w w') : ActsAt w' b n f := h.kept (Kept.of_below (X := fun _ => False) hb) (fun h => h)
theorem ActsAt.lt {w : World} {b n : Nat} {f : List UInt8 → Option Nat} (h : ActsAt w b n f) : b < w.heap.size := let ⟨_, h1, _⟩ := h; h1.lt
theorem acts_new (w : World) : ActsAt (w.alloc (.map #[] 0)) w.heap.size 0 (fun _ => none) := ⟨.map [], World.ownsMap_made _ _ _ _, ⟨_, rfl⟩, fun u z => rfl⟩
theorem acts_put {w : World} {b n : Nat} {f : List UInt8 → Option Nat} {D : DataW Unit} {h : List UInt8} {k : Nat} (h1 : w.ownsMap Tryz.prog 9 actR b (n + 1) (D.put (.string h) (actD k h))) (h2 : Maps.IsMap D)
    (h3 : ∀ u z, D.atKey (.string u) z = match f u with | none => z | some k => actD k u) : ActsAt w b (n + 1) (putF f h k) := by
  refine ⟨_, h1, h2.put _ _, fun u z => ?_⟩
  unfold putF
  by_cases e : u = h
  · subst e
    rw [Maps.atKey_put_same h2 (show WideAt.IsKeyLit (.string u) from trivial), if_pos rfl]
  · rw [Maps.atKey_put_other (by intro h; injection h with h; exact e h), if_neg e]
    exact h3 u z
theorem zeroAct (w : World) : (zeroValue 48).run Tryz.prog w = .ok (.agg #[.int .i64 0, .string ⟨#[]⟩]) w := by kernel_rfl
set_option maxRecDepth 100000 in
set_option maxHeartbeats 8000000 in
theorem actions_any (vA vB : Value) (LA LB : List (SiteZ × Value)) (w : World) (hA : ReadsP w vA LA) (hB : ReadsP w vB LB) (fA : Few LA) (fB : Few LB) (hn : ((LB.map (·.1)).map (·.host)).Nodup) :
    Calls Tryz.prog 44 #[.agg #[vA], .agg #[vB]] w fun e w' => ∃ b, e = .returned (.map (some b)) ∧ ActsAt w' b (LA.length + LB.length) (actF (LA.map (·.1)) (LB.map (·.1))) ∧ Below w.heap.size w w' := by
  obtain ⟨ao, c, e1, f1⟩ := hA.form
  obtain ⟨bo, d, e2, f2⟩ := hB.form
  obtain ⟨n, hln⟩ : ∃ n, LA.length = n := ⟨_, rfl⟩
  obtain ⟨m, hlm⟩ : ∃ n, LB.length = n := ⟨_, rfl⟩
  rw [hln] at e1
  rw [hlm] at e2
  subst e1 e2
  have hnb : n ≤ 1000000 := by rw [← hln]; exact fA.len
  have hmb : m ≤ 1000000 := by rw [← hlm]; exact fB.len
  obtain ⟨W, hW⟩ : ∃ W, (w.alloc (.cells #[.slice ao n c] 25)).alloc (.cells #[.slice bo m d] 25) = W := ⟨_, rfl⟩
  have hb : Below w.heap.size w W := by rw [← hW]; exact chainP (below_alloc _ _) (below_alloc _ _)
  have q1 : rowIs W w.heap.size #[.slice ao n c] 25 := by rw [← hW]; exact (rowIs_new _ _ _).below (below_alloc _ _)
  have q2 : rowIs W (w.heap.size + 1) #[.slice bo m d] 25 := by rw [← hW]; exact rowIs_new_at _ _ _ _ (by simp)
  have hsz : W.heap.size = w.heap.size + 2 := by rw [← hW]; simp
  obtain ⟨M, hM⟩ : ∃ m, w.heap.size + 2 = m := ⟨_, rfl⟩
  have HL := hid (And.intro hln hlm)
  have HA := hid (And.intro hA fA)
  have HB := hid (And.intro hB fB)
  have HN := hid hn
  have HQ := hid (And.intro q1 (And.intro q2 hb))
  have HZ := hid (And.intro (hsz.trans hM) hM)
  have S0 := hid (show ActsAt (W.alloc (.map #[] 0)) M 0 (fun _ => none) by rw [← hM, ← hsz]; exact acts_new W)
  have j1 := (q1.below (below_alloc W (.map #[] 0))).cell 0
  have KB0 := hid (below_alloc W (.map #[] 0))
  have hmm := @run_makeMap Tryz.prog
  clear hA hB fA fB hn f1 f2 hln hlm hb q1 q2
  go_enter Tryz.func44, Tryz.ntmps44
  go_wp2_with fail
  rw [← hsz] at hM
  clear hmm hW
  obtain ⟨V, hV⟩ : ∃ V, W.alloc (.map #[] 0) = V := ⟨_, rfl⟩
  rw [hV] at S0 KB0 j1 ⊢
  have HBV := hid (chainP HQ.out.2.2 KB0.out)
  -- block M is of the call's own, between the boxes and what comes behind
  have HBM : Hid (M = w.heap.size + 2 ∧ ∀ X Y : World, Below w.heap.size w X → X.grownBy Y (some M) → Below w.heap.size w Y) := ⟨HZ.out.2.symm, fun X Y h1 h2 => h1.grown h2 h1.size (fun k hk => by cases hk; have := HZ.out; omega)⟩
  go_loopw [14] (fun z wr => ∃ (k : Nat), z = .int .i64 (k : Int) ∧ k ≤ n ∧ ActsAt wr M k (actF0 ((LA.map (·.1)).take k)) ∧ Kept (fun j => j = M) V wr ∧ Below w.heap.size w wr) (fun z _ => n - (intOf z).toNat)
  case atStart => exact ⟨0, rfl, Nat.zero_le _, by
    have e : actF0 ((LA.map (·.1)).take 0) = fun _ => none := by funext u; unfold actF0; simp
    rw [e]; exact S0.out, Kept.refl _ _, HBV.out⟩
  case round =>
    obtain ⟨k, rfl, hk, hact, hkp, hbr⟩ := hrel
    have HR := hid (And.intro hact (And.intro hkp hbr))
    have KRA := hid ((HQ.out.1.below KB0.out).kept hkp (by have := HZ.out; omega))
    have KRB := hid ((HQ.out.2.1.below KB0.out).kept hkp (by have := HZ.out; omega))
    by_cases hlt : k < n
    · obtain ⟨⟨s, hv⟩, hx⟩ : ∃ x, LA[k]? = some x := by
        have := HL.out
        exact ⟨LA[k]'(by omega), List.getElem?_eq_getElem (by omega)⟩
      have hmem := List.mem_of_getElem? hx
      have hrd := (HA.out.1.heads _ hmem).below hbr
      obtain ⟨ah, ch, hfv⟩ := hrd.form
      simp only at hfv hrd
      obtain ⟨nh, hnh⟩ : ∃ nh, (s.heads.map strV).length = nh := ⟨_, rfl⟩
      rw [hnh] at hfv
      subst hfv
      obtain ⟨b1, o1, g1, i1⟩ := (HA.out.1.below hbr).at_ hx
      subst g1
      have hkI : (k : Int) < (n : Int) := by omega
      have hk0 : (0 : Int) ≤ (k : Int) := by omega
      have hkw : IntKind.i64.wrap ((k : Int) + 1) = (k : Int) + 1 := IntWalk.i64_in _ (by omega)
      obtain ⟨p1, hp1⟩ : ∃ p, o1 + k * 7 = p := ⟨_, rfl⟩
      rw [hp1] at i1
      have y0 := i1 0 _ rfl
      have y1 := i1 1 _ rfl
      have y2 := i1 2 _ rfl
      have y3 := i1 3 _ rfl
      have y4 := i1 4 _ rfl
      have y5 := i1 5 _ rfl
      have y6 := i1 6 _ rfl
      rw [Nat.add_zero] at y0
      obtain ⟨W5, hW5⟩ : ∃ W, wr.alloc (.cells (rowZ (.slice ah nh ch) s) 64) = W := ⟨_, rfl⟩
      have hb5 : Below wr.heap.size wr W5 := by rw [← hW5]; exact below_alloc _ _
      have r5 : rowIs W5 wr.heap.size (rowZ (.slice ah nh ch) s) 64 := by rw [← hW5]; exact rowIs_new _ _ _
      have x0 := r5.cell 0
      have hkey := key_str s.host (HA.out.2.host _ hmem)
      have hx2 : (LA.map (·.1))[k]? = some s := by rw [List.getElem?_map, hx]; rfl
      have HST := hid (actF0_step hx2)
      have HB5 := hid (And.intro (chainP hbr hb5) hb5)
      obtain ⟨D, hown, hmap, hat⟩ := hact.below hb5
      have hval := actR_mk 2 s.host
      have HD := hid (And.intro hmap hat)
      have hL2 : k < maxLen := by unfold maxLen; omega
      clear hact hkp hbr hx hmem hrd hnh i1 hb5 r5 hx2 hmap hat
      go_wp2_with (first | (at_mapUpdate; refine wpList_mapUpdate_own _ rfl _ _ _ 94 rfl 9 48 lawS Tryz.underlying94 _ M k _ rfl hown hL2 _ _ _ rfl rfl hkey _ [] hval ?_; intro w6 hown6 hgrow6))
      have HA6 := hid (acts_put (k := 2) hown6 HD.out.1 HD.out.2)
      have HK6 := hid ((HR.out.2.1.trans (Kept.of_below (X := fun _ => False) HB5.out.2) (fun j h _ => h.elim)).trans ((Kept.refl (fun j => j = M) W5).grown hgrow6 (fun j hj _ => by cases hj; rfl)) (fun j h _ => h))
      have HB6 := hid (HBM.out.2 _ _ HB5.out.1 hgrow6)
      clear hown6 hgrow6 hown hval hkey y0 y1 y2 y3 y4 y5 y6 x0 hW5
      go_wp2_with fail
      go_roundw
      case rel => exact ⟨k + 1, by go_num, hlt, by rw [HST.out]; exact HA6.out, HK6.out, HB6.out⟩
      case measure => simp [intOf]; omega
    · have hkn : n = k := by omega
      have e0 : (LA.map (·.1)).take k = LA.map (·.1) := List.take_of_length_le (by have := HL.out; rw [List.length_map]; omega)
      rw [e0, ← hkn, ← actF_nil] at hact
      have HR2 := hid (And.intro hact (And.intro hkp hbr))
      have j2 : wr.cell? ⟨w.heap.size + 1, 0, none⟩ = some (.slice bo m d) := KRB.out.cell 0
      have hkI : ¬ (k : Int) < (n : Int) := by omega
      clear hact hkp hbr e0 hkn
      go_wp2_with fail
      clear j2
      go_loopw [28] (fun z wq => ∃ (k : Nat), z = .int .i64 (k : Int) ∧ k ≤ m ∧ ActsAt wq M (n + k) (actF (LA.map (·.1)) ((LB.map (·.1)).take k)) ∧ Kept (fun j => j = M) V wq ∧ Below w.heap.size w wq) (fun z _ => m - (intOf z).toNat)
      case atStart => exact ⟨0, rfl, Nat.zero_le _, HR2.out.1, HR2.out.2.1, HR2.out.2.2⟩
      case round =>
        obtain ⟨k, rfl, hk, hact, hkp, hbr⟩ := hrel
        have HR := hid (And.intro hact (And.intro hkp hbr))
        have KRA := hid ((HQ.out.1.below KB0.out).kept hkp (by have := HZ.out; omega))
        have KRB := hid ((HQ.out.2.1.below KB0.out).kept hkp (by have := HZ.out; omega))
        by_cases hlt : k < m
        · obtain ⟨⟨s, hv⟩, hx⟩ : ∃ x, LB[k]? = some x := by
            have := HL.out
            exact ⟨LB[k]'(by omega), List.getElem?_eq_getElem (by omega)⟩
          have hmem := List.mem_of_getElem? hx
          have hrd := (HB.out.1.heads _ hmem).below hbr
          obtain ⟨ah, ch, hfv⟩ := hrd.form
          simp only at hfv hrd
          obtain ⟨nh, hnh⟩ : ∃ nh, (s.heads.map strV).length = nh := ⟨_, rfl⟩
          rw [hnh] at hfv
          subst hfv
          obtain ⟨b1, o1, g1, i1⟩ := (HB.out.1.below hbr).at_ hx
          subst g1
          have hkI : (k : Int) < (m : Int) := by omega
          have hk0 : (0 : Int) ≤ (k : Int) := by omega
          have hkw : IntKind.i64.wrap ((k : Int) + 1) = (k : Int) + 1 := IntWalk.i64_in _ (by omega)
          obtain ⟨p1, hp1⟩ : ∃ p, o1 + k * 7 = p := ⟨_, rfl⟩
          rw [hp1] at i1
          have y0 := i1 0 _ rfl
          have y1 := i1 1 _ rfl
          have y2 := i1 2 _ rfl
          have y3 := i1 3 _ rfl
          have y4 := i1 4 _ rfl
          have y5 := i1 5 _ rfl
          have y6 := i1 6 _ rfl
          rw [Nat.add_zero] at y0
          obtain ⟨W5, hW5⟩ : ∃ W, wr.alloc (.cells (rowZ (.slice ah nh ch) s) 64) = W := ⟨_, rfl⟩
          have hb5 : Below wr.heap.size wr W5 := by rw [← hW5]; exact below_alloc _ _
          have R5 := hid (show rowIs W5 wr.heap.size (rowZ (.slice ah nh ch) s) 64 by rw [← hW5]; exact rowIs_new _ _ _)
          have RA := hid (KRA.out.below hb5)
          have X0 := hid (show W5.cell? ⟨wr.heap.size, 0, none⟩ = some (strV s.host) from R5.out.cell 0)
          have hkey := key_str s.host (HB.out.2.host _ hmem)
          have hx2 : (LB.map (·.1))[k]? = some s := by rw [List.getElem?_map, hx]; rfl
          have HST := hid (actF_step (A := LA.map (·.1)) hx2 HN.out)
          have HACT := hid (hact.below hb5)
          have HB5 := hid (And.intro (chainP hbr hb5) hb5)
          have CK : Hid (∀ W, Below W5.heap.size W5 W → Calls Tryz.prog 66 #[.agg #[.slice ao n c], .agg (rowZ (.slice ah nh ch) s)] W fun e w' => e = .returned (.int .i64 ((kindP (LA.map (·.1)) s : Nat) : Int)) ∧ Below W.heap.size W w') := fun W hS =>
            kind_any (.slice ao n c) LA (.slice ah nh ch) s W (HA.out.1.below (chainP HB5.out.1 hS)) ((hrd.below hb5).below hS) HA.out.2.len HA.out.2.heads (HB.out.2.heads _ hmem)
          obtain ⟨kd, hkd⟩ : ∃ kd, kindP (LA.map (·.1)) s = kd := ⟨_, rfl⟩
          rw [hkd] at CK HST
          have hval := actR_mk (kd : Int) s.host
          clear hact hkp hbr hx hmem hrd hnh i1 hb5 hx2 hkd
          go_wp2_with fail
          clear y0 y1 y2 y3 y4 y5 y6 hW5
          refine wp_region_K 9 (by kernel_rfl) (fun w' => Below W5.heap.size W5 w') ((Below.refl _ _).drew) (fun hH => ?_)
          refine wpAnyK_take (i := 0) (v := ?_) rfl (by kernel_rfl) (by kernel_rfl) (by kernel_rfl) (by decide) (by kernel_rfl) (fun _ _ _ h => h) (Or.inl ⟨by kernel_rfl, ?_⟩) hH ?_
          rotate_left
          · intro W hS
            have x0 := kept X0.out hS
            go_simp
            first | done | with_reducible rfl
          simp only [Act.put, List.getElem_toArray, List.getElem_cons_succ, List.getElem_cons_zero, List.setIfInBounds_toArray, List.set_cons_zero, List.set_cons_succ]
          refine wpAnyK_take (i := 1) (v := ?_) rfl (by kernel_rfl) (by kernel_rfl) (by kernel_rfl) (by decide) (by kernel_rfl) (fun _ _ _ h => h) (Or.inl ⟨by kernel_rfl, ?_⟩) hH ?_
          rotate_left
          · intro W hS
            have x0 := kept X0.out hS
            go_simp
            first | done | with_reducible rfl
          simp only [Act.put, List.getElem_toArray, List.getElem_cons_succ, List.getElem_cons_zero, List.setIfInBounds_toArray, List.set_cons_zero, List.set_cons_succ]
          refine wpAnyK_take (i := 2) (v := ?_) rfl (by kernel_rfl) (by kernel_rfl) (by kernel_rfl) (by decide) (by kernel_rfl) (fun _ _ _ h => h) (Or.inl ⟨by kernel_rfl, ?_⟩) hH ?_
          rotate_left
          · intro W hS
            have x0 := kept X0.out hS
            go_simp
            first | done | with_reducible rfl
          simp only [Act.put, List.getElem_toArray, List.getElem_cons_succ, List.getElem_cons_zero, List.setIfInBounds_toArray, List.set_cons_zero, List.set_cons_succ]
          refine wpAnyK_take (i := 3) (v := .agg #[.slice ao n c]) rfl (by kernel_rfl) (by kernel_rfl) (by kernel_rfl) (by decide) (by kernel_rfl) (fun _ _ _ h => h) (Or.inl ⟨by kernel_rfl, ?_⟩) hH ?_
          · intro W hS
            exact load_gives rfl _ rfl (RA.out.below hS) Tryz.underlying25 rfl infoCfg
          simp only [Act.put, List.getElem_toArray, List.getElem_cons_succ, List.getElem_cons_zero, List.setIfInBounds_toArray, List.set_cons_zero, List.set_cons_succ]
          refine wpAnyK_take (i := 4) (v := .agg (rowZ (.slice ah nh ch) s)) rfl (by kernel_rfl) (by kernel_rfl) (by kernel_rfl) (by decide) (by kernel_rfl) (fun _ _ _ h => h) (Or.inl ⟨by kernel_rfl, ?_⟩) hH ?_
          · intro W hS
            exact load_gives rfl _ rfl (R5.out.below hS) Tryz.underlying64 rfl infoSite
          simp only [Act.put, List.getElem_toArray, List.getElem_cons_succ, List.getElem_cons_zero, List.setIfInBounds_toArray, List.set_cons_zero, List.set_cons_succ]
          refine wpAnyK_take (i := 6) (v := ?_) rfl (by kernel_rfl) (by kernel_rfl) (by kernel_rfl) (by decide) (by kernel_rfl) (fun _ _ _ h => h) (Or.inl ⟨by kernel_rfl, ?_⟩) hH ?_
          rotate_left
          · intro W hS
            have x0 := kept X0.out hS
            go_simp
            first | done | with_reducible rfl
          simp only [Act.put, List.getElem_toArray, List.getElem_cons_succ, List.getElem_cons_zero, List.setIfInBounds_toArray, List.set_cons_zero, List.set_cons_succ]
          refine wpAnyK_take (i := 7) (v := ?_) rfl (by kernel_rfl) (by kernel_rfl) (by kernel_rfl) (by decide) (by kernel_rfl) (fun _ _ _ h => h) (Or.inl ⟨by kernel_rfl, ?_⟩) hH ?_
          rotate_left
          · intro W hS
            have x0 := kept X0.out hS
            go_simp
            first | done | with_reducible rfl
          simp only [Act.put, List.getElem_toArray, List.getElem_cons_succ, List.getElem_cons_zero, List.setIfInBounds_toArray, List.set_cons_zero, List.set_cons_succ]
          refine wpAnyK_next (i := 5) (by kernel_rfl) rfl (by decide) (fun K hK => ?_)
          go_simp
          refine (CK.out _ hH).mono ?_
          rintro e w6 ⟨rfl, hb6⟩
          refine hK.out _ _ (chainP hH hb6) (fun hH => ?_)
          clear hK K
          try simp only [Act.put, List.getElem_toArray, List.getElem_cons_succ, List.getElem_cons_zero, List.setIfInBounds_toArray, List.set_cons_zero, List.set_cons_succ]
          refine wpAnyK_take (i := 8) (v := ?_) rfl (by kernel_rfl) (by kernel_rfl) (by kernel_rfl) (by decide) (by kernel_rfl) (fun _ _ _ h => h) (Or.inl ⟨by kernel_rfl, ?_⟩) hH ?_
          rotate_left
          · intro W hS
            have x0 := kept X0.out hS
            go_simp
            first | done | with_reducible rfl
          simp only [Act.put, List.getElem_toArray, List.getElem_cons_succ, List.getElem_cons_zero, List.setIfInBounds_toArray, List.set_cons_zero, List.set_cons_succ]
          refine wpAnyK_last (by kernel_rfl) rfl (fun K hK => ?_)
          obtain ⟨D, hown, hmap, hat⟩ := HACT.out.below hH
          obtain ⟨w7, hrun, hown2, hg7⟩ := hown.update lawS Tryz.underlying94 (by unfold maxLen; omega) hkey hval
          have HACT2 := hid (acts_put (k := kd) hown2 hmap hat)
          have HB7 := hid (HBM.out.2 _ _ (chainP HB5.out.1 hH) hg7)
          have HK7 := hid (((HR.out.2.1.trans (Kept.of_below (X := fun _ => False) HB5.out.2) (fun j h _ => h.elim)).trans (Kept.of_below (X := fun _ => False) hH) (fun j h _ => h.elim)).trans ((Kept.refl (fun j => j = M) _).grown hg7 (fun j hj _ => by cases hj; rfl)) (fun j h _ => h))
          clear hown hown2 hmap hat hg7
          go_simp
          refine hK.out _ _ ?_
          clear hK K
          try simp only [Act.put, List.getElem_toArray, List.getElem_cons_succ, List.getElem_cons_zero, List.setIfInBounds_toArray, List.set_cons_zero, List.set_cons_succ]
          refine wpAnyK_done (by kernel_rfl) ?_ _
          go_wp2_with fail
          go_roundw
          case rel => exact ⟨k + 1, by go_num, hlt, by rw [HST.out]; exact HACT2.out, HK7.out, HB7.out⟩
          case measure => simp [intOf]; omega
        · have hkn : m = k := by omega
          have e0 : (LB.map (·.1)).take k = LB.map (·.1) := List.take_of_length_le (by have := HL.out; rw [List.length_map]; omega)
          rw [e0, ← hkn] at hact
          have HE := hid (And.intro hact hbr)
          have hkI : ¬ (k : Int) < (m : Int) := by omega
          clear hact hkp hbr e0 hkn
          go_wp2_with fail
          go_ret
          have := HL.out
          exact ⟨M, rfl, by rw [this.1, this.2]; exact HE.out.1, HE.out.2⟩
end Go.Proofs.YtenijpcjemdhfaaGreatDoor
/-
  Contracts of package plan: own.
-/
namespace Go.Proofs.YtenijpcjemdhfaaGreatDoor
open Go.RowKit Go.Pantry

set_option maxRecDepth 8000 in
theorem own_wide (hv : Value) (s : SiteZ) (w : World) (hr : Reads w hv (s.heads.map strV)) (hl : s.heads.length * 16 ≤ 140737488355328) :
    Calls Tryz.prog 48 #[.agg (rowZ hv s)] w fun e w' => ∃ v', e = .returned (.agg (rowZ v' s)) ∧ w'.ownsRow w.heap.size 9 1 v' s.heads.length (s.heads.map strV) ∧ Below w.heap.size w w' := by
  obtain ⟨ah, ch, e1⟩ := hr.form
  obtain ⟨nh, hnh⟩ : ∃ n, (s.heads.map strV).length = n := ⟨_, rfl⟩
  rw [hnh] at e1
  subst e1
  obtain ⟨W, hW⟩ : ∃ W, (w.alloc (.cells (rowZ (.slice ah nh ch) s) 64)).alloc (.cells zeroSite 64) = W := ⟨_, rfl⟩
  have hb : Below w.heap.size w W := by rw [← hW]; exact chainP (below_alloc _ _) (below_alloc _ _)
  have q1 : rowIs W w.heap.size (rowZ (.slice ah nh ch) s) 64 := by rw [← hW]; exact (rowIs_new _ _ _).below (below_alloc _ _)
  have q2 : rowIs W (w.heap.size + 1) zeroSite 64 := by rw [← hW]; exact rowIs_new_at _ _ _ _ (by simp)
  have hsz : W.heap.size = w.heap.size + 2 := by rw [← hW]; simp
  have cc := cloneS_wide (.slice ah nh ch) s.heads W (hr.below hb) hl
  have CC := hid cc
  have HQ := hid (And.intro q1 (And.intro q2 (And.intro hb hsz)))
  have c6 := q1.cell 6
  clear hr hnh hb q1 q2 hsz cc
  go_enter Tryz.func48, Tryz.ntmps48
  go_wp2_with fail
  refine CC.out.mono ?_
  rintro e w3 ⟨v3, rfl, hr3, hb3⟩
  obtain ⟨a3, c3, hf3⟩ := ownsRow_formN hr3
  obtain ⟨n3, hn3⟩ : ∃ n3, s.heads.length = n3 := ⟨_, rfl⟩
  rw [hn3] at hf3 hr3
  subst hf3
  have hrx := HQ.out.1.below hb3
  have hra := HQ.out.2.1.below hb3
  have HB3 := hid (chainP HQ.out.2.2.1 hb3)
  have hra2 := hra.setCell_block (g' := w.heap.size) (by omega) 6 (.slice a3 n3 c3)
  have hrx2 := hrx.setCell 6 (.slice a3 n3 c3)
  have f6 := hrx.free 6
  have HR3 := hid hr3
  clear c6 hW
  have c6 := hrx.cell 6
  have HN3 := hid hn3
  clear hn3 hr3 hra hb3 hrx
  go_wp2_with (first
    | (refine wpList_load_row rfl 64 _ rfl w.heap.size rfl 64 _ (0, 0) _ hrx2 Tryz.underlying64 rfl infoSite ?_)
    | (refine wpList_store_row rfl 64 _ _ rfl (w.heap.size + 1) _ rfl rfl 64 _ hra2 infoSite rfl (oneSite _ _ _ _ _ _ _ _ _) ?_))
  refine bodyPost_ret (results_row Tryz.results48 _ _ (w.heap.size + 1) _ rfl (hra2.setRow _) Tryz.underlying64 rfl infoSite) rfl ?_
  have kk := ((Kept.refl (fun g => g = w.heap.size ∨ g = w.heap.size + 1) w3).setCell (i := 6) (.inl (.inl rfl)) (.slice a3 n3 c3)).setRow (g := w.heap.size + 1) (.inl (.inr rfl)) (rowZ (.slice a3 n3 c3) s)
  have ho := ownsRow_kept HR3.out kk (fun g hg hX => by
    have h1 := (HR3.out.lt _ hg).1
    have h2 := HQ.out.2.2.2
    rcases hX with e | e <;> omega)
  refine ⟨.slice a3 n3 c3, rfl, by rw [HN3.out]; exact ho.base (by have := HQ.out.2.2.2; omega), ?_⟩
  refine ((Kept.of_below (X := fun g => g = w.heap.size ∨ g = w.heap.size + 1) HB3.out).setCell (i := 6) (.inl (.inl rfl)) (.slice a3 n3 c3)).setRow (g := w.heap.size + 1) (.inl (.inr rfl)) (rowZ (.slice a3 n3 c3) s) |>.below (fun g h _ => ?_) (Nat.le_refl _)
  rcases h with e | e <;> omega
theorem own_any (hv : Value) (s : SiteZ) (w : World) (hr : Reads w hv (s.heads.map strV)) (hl : s.heads.length ≤ 1000000) :
    Calls Tryz.prog 48 #[.agg (rowZ hv s)] w fun e w' => ∃ v', e = .returned (.agg (rowZ v' s)) ∧ w'.ownsRow w.heap.size 9 1 v' s.heads.length (s.heads.map strV) ∧ Below w.heap.size w w' := own_wide hv s w hr (by omega)
end Go.Proofs.YtenijpcjemdhfaaGreatDoor
/-
  Contracts of package plan: a table's Config.
-/
namespace Go.Pantry
open Go.RowKit
theorem below_drew {B : Nat} {w w' : World} (h : Below B w w') : Below B w w'.drew := h.drew
/-- the heads of sites, with their slices -/
def hsZ (L : List (SiteZ × Value)) : List (Value × List (List UInt8)) := L.map fun x => (x.2, x.1.heads)
end Go.Pantry
namespace Go.Proofs.YtenijpcjemdhfaaGreatDoor
open Go.RowKit Go.Pantry

/-- sites of the program's own, as they grow -/
abbrev SitesOwn (w : World) (C : Nat) (sv : Value) (L : List (SiteZ × Value)) : Prop := OwnAt w 64 7 9 C sv L.length (rowsZ L) (hsZ L)
theorem SitesOwn.readsP {w : World} {C : Nat} {sv : Value} {L : List (SiteZ × Value)} (h : SitesOwn w C sv L) : ReadsP w sv L ∧ ∀ x ∈ L, Room x.2 := by
  have hm : ∀ x ∈ L, w.ownsRow 0 9 1 x.2 x.1.heads.length (x.1.heads.map strV) := fun x hx => h.heads (x.2, x.1.heads) (List.mem_map.2 ⟨x, hx, rfl⟩)
  exact ⟨readsP_own h.own (fun x hx => (hm x hx).reads), fun x hx => room_ofOwn (hm x hx)⟩
set_option maxRecDepth 8000 in
theorem tableConfig_wide (g : Int) (v : Value) (L : List RuleZ) (w : World) (h : ReadsR w v L) (hl : L.length * 72 ≤ 140737488355328) (hh : ∀ x ∈ L, x.1.heads.length * 16 ≤ 140737488355328) :
    Calls Tryz.prog 26 #[.agg #[.int .i64 g, v]] w fun e w' => ∃ v' L', e = .returned (.agg #[v']) ∧ L'.map (·.1) = L.map (·.1) ∧ ReadsP w' v' L' ∧ (∀ x ∈ L', Room x.2) ∧ Below w.heap.size w w' := by
  obtain ⟨ao, cap, hv, hcells⟩ := h.form
  subst hv
  obtain ⟨A, hA⟩ : ∃ A, w.heap.size + 1 = A := ⟨_, rfl⟩
  obtain ⟨C, hC⟩ : ∃ C, A + 1 = C := ⟨_, rfl⟩
  have HP := hid h
  obtain ⟨n, hn⟩ : ∃ n, L.length = n := ⟨_, rfl⟩
  rw [hn] at HP hl ⊢
  obtain ⟨W, hW⟩ : ∃ W, ((w.alloc (.cells #[.int .i64 g, .slice ao n cap] 52)).alloc (.cells #[.slice none 0 0] 25)).alloc (.cells #[.slice none 0 0] 25) = W := ⟨_, rfl⟩
  have hbb : Below w.heap.size w W := by rw [← hW]; exact chainP (chainP (below_alloc _ _) (below_alloc _ _)) (below_alloc _ _)
  have J0 : Hid (rowIs W A #[.slice none 0 0] 25 ∧ rowIs W C #[.slice none 0 0] 25 ∧ SitesOwn W C (.slice none 0 0) [] ∧ Below w.heap.size w W) :=
    ⟨by rw [← hW]; exact (rowIs_new_at _ _ _ _ (by simp; omega)).below (below_alloc _ _), by rw [← hW]; exact rowIs_new_at _ _ _ _ (by simp; omega), OwnAt.nil _ _ _ _ _, hbb⟩
  have HN := hid (show w.heap.size < A ∧ A < C ∧ n * 72 ≤ 140737488355328 ∧ L.length = n from by omega)
  have HHH := hid hh
  have hcb : W.cell? ⟨w.heap.size, 1, none⟩ = some (.slice ao n cap) := by rw [← hW]; exact (((rowIs_new w #[.int .i64 g, .slice ao n cap] 52).below (below_alloc _ _)).below (below_alloc _ _)).cell 1
  clear hbb h hcells hn hh
  go_enter Tryz.func26, Tryz.ntmps26
  go_wp2_with fail
  clear hcb hA hC hW
  go_loopw [9] (fun z wr => ∃ (k : Nat) (sv : Value) (L' : List (SiteZ × Value)), z = .int .i64 (k : Int) ∧ k ≤ n ∧ L'.map (·.1) = (L.map (·.1)).take k ∧ rowIs wr A #[.slice none 0 0] 25 ∧ rowIs wr C #[sv] 25 ∧ SitesOwn wr C sv L' ∧ Below w.heap.size w wr) (fun z _ => n - (intOf z).toNat)
  case atStart => exact ⟨0, _, [], rfl, Nat.zero_le _, rfl, J0.out.1, J0.out.2.1, J0.out.2.2.1, J0.out.2.2.2⟩
  case round =>
    clear J0
    obtain ⟨k, sv, L', rfl, hk, he, hra, hrc, hz, hb⟩ := hrel
    obtain ⟨aos, cs, hf⟩ := ownsRow_formN hz.own
    obtain ⟨ns, hns⟩ : ∃ ns, L'.length = ns := ⟨_, rfl⟩
    have HNK := hid (show ns = k by
      have h1 := congrArg List.length he
      have h2 := HN.out
      rw [List.length_map, List.length_take, List.length_map] at h1
      omega)
    have HE := hid he
    rw [hns] at hf
    subst hf
    have HB := hid (And.intro hra (And.intro hrc (And.intro hz hb)))
    have hcc := hrc.cell 0
    by_cases hlt : k < n
    · obtain ⟨⟨s, hvx, z⟩, hx⟩ : ∃ x, L[k]? = some x := by
        have := HN.out
        exact ⟨L[k]'(by omega), List.getElem?_eq_getElem (by omega)⟩
      have hrd := HP.out.heads _ (List.mem_of_getElem? hx)
      simp only at hrd
      obtain ⟨aox, cx, hfx⟩ := hrd.form
      obtain ⟨nx, hnx⟩ : ∃ n, (s.heads.map strV).length = n := ⟨_, rfl⟩
      rw [hnx] at hfx
      subst hfx
      have HXR := hid (hrd.below hb)
      have HXL := hid (HHH.out _ (List.mem_of_getElem? hx))
      obtain ⟨b, off, hao, hc⟩ := (HP.out.below hb).at_ hx
      subst hao
      obtain ⟨o, ho⟩ : ∃ o, off + k * 8 = o := ⟨_, rfl⟩
      rw [ho] at hc
      have x0 := hc 0 _ rfl
      have x1 := hc 1 _ rfl
      have x2 := hc 2 _ rfl
      have x3 := hc 3 _ rfl
      have x4 := hc 4 _ rfl
      have x5 := hc 5 _ rfl
      have x6 := hc 6 _ rfl
      have x7 := hc 7 _ rfl
      rw [Nat.add_zero] at x0
      have hx2 : (L.map (·.1))[k]? = some s := by rw [List.getElem?_map, hx]; rfl
      have HX := hid hx2
      have hkI : (k : Int) < (n : Int) := by omega
      have hk0 : (0 : Int) ≤ (k : Int) := by omega
      have hkw : IntKind.i64.wrap ((k : Int) + 1) = (k : Int) + 1 := IntWalk.i64_in _ (by omega)
      clear hra hz hb hc hx hx2 hnx he hrd
      go_wp2_with fail
      obtain ⟨wx, hWX⟩ : ∃ W, wr.alloc (.cells (rowRz (s, .slice aox nx cx, z)) 66) = W := ⟨_, rfl⟩
      have hbx : Below wr.heap.size wr wx := by rw [← hWX]; exact below_alloc _ _
      have hrx : rowIs wx wr.heap.size (rowRz (s, .slice aox nx cx, z)) 66 := by rw [← hWX]; exact rowIs_new _ _ _
      have hccx : wx.cell? ⟨C, 0, none⟩ = some (.slice aos ns cs) := kept hcc hbx
      have HWX := hid (show wr.heap.size < wx.heap.size by rw [← hWX]; simp)
      have HSV := hid (show ¬ (Value.slice aos ns cs).ownBlock = some wr.heap.size from fun e => by have := (HB.out.2.2.1.own.lt _ e).2; omega)
      clear x0 x1 x2 x3 x4 x5 x6 x7 hcc
      change Code.wp _ _ _ _ (wr.alloc (.cells (rowRz (s, .slice aox nx cx, z)) 66))
      rw [hWX]
      refine wp_region_K 8 (by kernel_rfl) (fun w' => w'.cell? ⟨C, 0, none⟩ = some (.slice aos ns cs) ∧ rowIs w' wr.heap.size (rowRz (s, .slice aox nx cx, z)) 66) ⟨hccx, hrx⟩ (fun hH => ?_)
      refine wpAnyK_take (i := 0) (v := ?_) rfl (by kernel_rfl) (by kernel_rfl) (by kernel_rfl) (by decide) (by kernel_rfl) (fun _ _ _ h => h) (Or.inl ⟨by kernel_rfl, ?_⟩) hH ?_
      rotate_left
      · intro W hS
        obtain ⟨q1, q2⟩ := hS
        have y0 := q2.cell 0
        have y1 := q2.cell 1
        have y2 := q2.cell 2
        have y3 := q2.cell 3
        have y4 := q2.cell 4
        have y5 := q2.cell 5
        have y6 := q2.cell 6
        go_simp
        first | done | with_reducible rfl
      simp only [Act.put, List.getElem_toArray, List.getElem_cons_succ, List.getElem_cons_zero, List.setIfInBounds_toArray, List.set_cons_zero, List.set_cons_succ]
      refine wpAnyK_take (i := 1) (v := ?_) rfl (by kernel_rfl) (by kernel_rfl) (by kernel_rfl) (by decide) (by kernel_rfl) (fun _ _ _ h => h) (Or.inl ⟨by kernel_rfl, ?_⟩) hH ?_
      rotate_left
      · intro W hS
        obtain ⟨q1, q2⟩ := hS
        have y0 := q2.cell 0
        have y1 := q2.cell 1
        have y2 := q2.cell 2
        have y3 := q2.cell 3
        have y4 := q2.cell 4
        have y5 := q2.cell 5
        have y6 := q2.cell 6
        go_simp
        first | done | with_reducible rfl
      simp only [Act.put, List.getElem_toArray, List.getElem_cons_succ, List.getElem_cons_zero, List.setIfInBounds_toArray, List.set_cons_zero, List.set_cons_succ]
      refine wpAnyK_take (i := 2) (v := ?_) rfl (by kernel_rfl) (by kernel_rfl) (by kernel_rfl) (by decide) (by kernel_rfl) (fun _ _ _ h => h) (Or.inl ⟨by kernel_rfl, ?_⟩) hH ?_
      rotate_left
      · intro W hS
        obtain ⟨q1, q2⟩ := hS
        have y0 := q2.cell 0
        have y1 := q2.cell 1
        have y2 := q2.cell 2
        have y3 := q2.cell 3
        have y4 := q2.cell 4
        have y5 := q2.cell 5
        have y6 := q2.cell 6
        go_simp
        first | done | with_reducible rfl
      simp only [Act.put, List.getElem_toArray, List.getElem_cons_succ, List.getElem_cons_zero, List.setIfInBounds_toArray, List.set_cons_zero, List.set_cons_succ]
      refine wpAnyK_take (i := 3) (v := ?_) rfl (by kernel_rfl) (by kernel_rfl) (by kernel_rfl) (by decide) (by kernel_rfl) (fun _ _ _ h => h) (Or.inl ⟨by kernel_rfl, ?_⟩) hH ?_
      rotate_left
      · intro W hS
        obtain ⟨q1, q2⟩ := hS
        have y0 := q2.cell 0
        have y1 := q2.cell 1
        have y2 := q2.cell 2
        have y3 := q2.cell 3
        have y4 := q2.cell 4
        have y5 := q2.cell 5
        have y6 := q2.cell 6
        go_simp
        first | done | with_reducible rfl
      simp only [Act.put, List.getElem_toArray, List.getElem_cons_succ, List.getElem_cons_zero, List.setIfInBounds_toArray, List.set_cons_zero, List.set_cons_succ]
      refine wpAnyK_next (i := 4) (by kernel_rfl) rfl (by decide) (fun K hK => ?_)
      go_simp
      refine (own_wide (.slice aox nx cx) s _ (HXR.out.below (below_drew hbx)) HXL.out).mono ?_
      rintro e w3 ⟨v3, rfl, hown3, hb3⟩
      replace hb3 := below_of_drew hb3
      obtain ⟨a4, n4, c4, rfl⟩ : ∃ a n c, v3 = .slice a n c := by obtain ⟨a, c, e⟩ := ownsRow_formN hown3; exact ⟨a, _, c, e⟩
      have hS3 := hid (And.intro (HB.out.1.below (chainP hbx hb3)) (And.intro (HB.out.2.1.below (chainP hbx hb3)) (And.intro (HB.out.2.2.1.below (chainP hbx hb3)) (And.intro (chainP HB.out.2.2.2 (chainP hbx hb3)) (And.intro hown3 hb3.size)))))
      have hq3 := hrx.below hb3
      have c3 := hS3.out.2.1.cell 0
      clear hb3 hown3
      refine hK.out _ _ ⟨c3, hq3⟩ (fun hH => ?_)
      clear hK K
      try simp only [Act.put, List.getElem_toArray, List.getElem_cons_succ, List.getElem_cons_zero, List.setIfInBounds_toArray, List.set_cons_zero, List.set_cons_succ]
      refine wpAnyK_next (i := 5) (by kernel_rfl) rfl (by decide) (fun K hK => ?_)
      obtain ⟨w4, hW4⟩ : ∃ W, W = w3.alloc (.cells (rowZ (.slice a4 n4 c4) s) 64) := ⟨_, rfl⟩
      have hb4 : Below w3.heap.size w3 w4 := by rw [hW4]; exact below_alloc _ _
      have hS4 := hid (And.intro (hS3.out.1.below hb4) (And.intro (hS3.out.2.1.below hb4) (And.intro (hS3.out.2.2.1.below hb4) (And.intro (chainP hS3.out.2.2.2.1 hb4) (And.intro (hS3.out.2.2.2.2.1.below hb4) (Nat.le_trans hS3.out.2.2.2.2.2 hb4.size))))))
      have hq4 := hq3.below hb4
      have HC4 : Hid (rowIs w4 w3.heap.size (rowZ (.slice a4 n4 c4) s) 64) := by rw [hW4]; exact rowIs_new _ _ _
      have c4x := hS4.out.2.1.cell 0
      go_simp
      rw [← hW4]
      clear hW4 hb4
      refine hK.out _ _ ⟨c4x, hq4⟩ (fun hH => ?_)
      clear hK K
      try simp only [Act.put, List.getElem_toArray, List.getElem_cons_succ, List.getElem_cons_zero, List.setIfInBounds_toArray, List.set_cons_zero, List.set_cons_succ]
      refine wpAnyK_next (i := 6) (by kernel_rfl) rfl (by decide) (fun K hK => ?_)
      rw [if_pos (by kernel_rfl)]
      refine wp_append_genZ w4 (.tmp 14) (.tmp 18) 23 rfl 0 64 Tryz.underlying23 infoSiteA rfl (by decide) (v := .slice aos ns cs) rfl hS4.out.2.2.1.own ⟨w3.heap.size, 0, none⟩ 1 1 (rowZ (.slice a4 n4 c4) s).toList rfl (fun j u hj => ?_) (rowZ_one) rfl (by have h1 := HN.out; have h2 := HNK.out; unfold maxLen; omega) (by have h1 := HN.out; have h2 := HNK.out; omega) (Nat.zero_le _) (fun v6 w6 ho6 hg6 hi6 => ?_)
      · rw [addAt2, Nat.zero_add, HC4.out.cell j]; simpa using hj
      obtain ⟨ao6, n6, c6, rfl⟩ : ∃ ao n c, v6 = .slice ao n c := by obtain ⟨ao, c, e⟩ := ownsRow_formN ho6; exact ⟨ao, _, c, e⟩
      have kk6 : Kept (fun k => (Value.slice aos ns cs).ownBlock = some k) w4 w6 := (Kept.refl (fun k => (Value.slice aos ns cs).ownBlock = some k) w4).grown hg6 (fun k hk _ => hk)
      have hC4 := hS4.out.2.1.lt
      have hwx := HWX.out
      have M6 := hS4.out.2.2.1.more (M := wx.heap.size) (hd := s.heads) hS4.out.2.2.2.2.1 (by have := HB.out.2.1.lt; omega) (fun k hk => by have := (HB.out.2.2.1.own.lt k hk).2; omega) ho6 hg6 hi6 hC4
      have O6 := hS4.out.1.kept kk6 (fun e => by have := hS4.out.2.2.1.inn _ e; have := HN.out; omega)
      have C6 := hS4.out.2.1.kept kk6 (fun e => by have := hS4.out.2.2.1.inn _ e; omega)
      have kC := (Kept.refl (fun k => k = C) w6).setCell (i := 0) (.inl rfl) (.slice ao6 n6 c6)
      have H6 := hid (And.intro (O6.kept kC (by have := HN.out; omega)) (And.intro (C6.setCell 0 (.slice ao6 n6 c6)) (And.intro (M6.kept kC (fun k hk _ e => by omega)) ((((Kept.of_below (X := fun k => w.heap.size ≤ k) hS4.out.2.2.2.1).trans kk6 (fun k h hk => by have := hS4.out.2.2.1.inn k h; have := HN.out; omega)).trans kC (fun k h hk => by have := HN.out; omega)).below (fun k h _ => h) (Nat.le_refl _)))))
      have cc6 := C6.cell 0
      have ff6 := C6.free 0
      have hq6 := hq4.kept kk6 (fun e => by have := (hS4.out.2.2.1.own.lt _ e).2; exact HSV.out e)
      clear kk6 hC4 M6 O6 C6 kC ho6 hg6 hi6 hwx
      refine hK.out _ _ ⟨cc6, hq6⟩ (fun hH => ?_)
      clear hK K
      try simp only [Act.put, List.getElem_toArray, List.getElem_cons_succ, List.getElem_cons_zero, List.setIfInBounds_toArray, List.set_cons_zero, List.set_cons_succ]
      refine wpAnyK_take (i := 7) (v := ?_) rfl (by kernel_rfl) (by kernel_rfl) (by kernel_rfl) (by decide) (by kernel_rfl) (fun _ _ _ h => h) (Or.inl ⟨by kernel_rfl, ?_⟩) hH ?_
      rotate_left
      · intro W hS
        obtain ⟨q1, q2⟩ := hS
        have y0 := q2.cell 0
        have y1 := q2.cell 1
        have y2 := q2.cell 2
        have y3 := q2.cell 3
        have y4 := q2.cell 4
        have y5 := q2.cell 5
        have y6 := q2.cell 6
        go_simp
        first | done | with_reducible rfl
      simp only [Act.put, List.getElem_toArray, List.getElem_cons_succ, List.getElem_cons_zero, List.setIfInBounds_toArray, List.set_cons_zero, List.set_cons_succ]
      refine wpAnyK_last (by kernel_rfl) rfl (fun K hK => ?_)
      go_simp
      refine hK.out _ _ ?_
      clear hK K
      try simp only [Act.put, List.getElem_toArray, List.getElem_cons_succ, List.getElem_cons_zero, List.setIfInBounds_toArray, List.set_cons_zero, List.set_cons_succ]
      refine wpAnyK_done (by kernel_rfl) ?_ _
      clear hH hrx hccx
      go_wp2_with fail
      go_roundw
      case rel =>
        refine ⟨k + 1, _, L' ++ [(s, .slice a4 n4 c4)], by go_num, hlt, ?_, H6.out.1, H6.out.2.1, ?_, H6.out.2.2.2⟩
        · rw [List.take_add_one, HX.out, List.map_append, HE.out]; rfl
        · unfold SitesOwn hsZ
          rw [rowsZ_snoc, List.length_append, List.map_append]
          exact H6.out.2.2.1
      case measure => simp [intOf]; omega
    · have hca := hra.cell 0
      have hfa := hra.free 0
      have hkn : k = n := by omega
      have HK := hid hkn
      clear hra hz hb hns hkn he
      go_wp2_with fail
      refine bodyPost_ret (results_row Tryz.results26 _ _ A _ rfl (HB.out.1.setCell 0 _) Tryz.underlying25 rfl infoCfg) rfl ?_
      have kA := (Kept.refl (fun k => k = A) wr).setCell (i := 0) (.inl rfl) (.slice aos ns cs)
      have hz := HB.out.2.2.1.kept kA (fun k hk _ e => by have := HN.out; omega)
      have hLk : (L.map (·.1)).take k = L.map (·.1) := List.take_of_length_le (by rw [List.length_map]; have := HN.out; have := HK.out; omega)
      have hbe : Below w.heap.size w (wr.setCell ⟨A, 0, none⟩ (.slice aos ns cs)) := ((Kept.of_below (X := fun k => w.heap.size ≤ k) HB.out.2.2.2).trans kA (fun k h hk => by have := HN.out; omega)).below (fun k h _ => h) (Nat.le_refl _)
      have hr := SitesOwn.readsP hz
      exact ⟨.slice aos ns cs, L', rfl, HE.out.trans hLk, hr.1, hr.2, hbe⟩
theorem tableConfig_any (g : Int) (v : Value) (L : List RuleZ) (w : World) (h : ReadsR w v L) (hl : L.length ≤ 1000000) (hh : ∀ x ∈ L, x.1.heads.length ≤ 1000000) :
    Calls Tryz.prog 26 #[.agg #[.int .i64 g, v]] w fun e w' => ∃ v' L', e = .returned (.agg #[v']) ∧ L'.map (·.1) = L.map (·.1) ∧ ReadsP w' v' L' ∧ (∀ x ∈ L', Room x.2) ∧ Below w.heap.size w w' :=
  tableConfig_wide g v L w h (by omega) (fun x hx => by have := hh x hx; omega)
end Go.Proofs.YtenijpcjemdhfaaGreatDoor
/-
  Contracts of package plan: a table's Right.
-/
namespace Go.Pantry
open Go.RowKit
theorem rightT_lo {g : Int} {T : List (SiteZ × Int)} (h : ¬ (0 ≤ g ∧ g ≤ 253402300799)) : rightT g T = false := by
  rw [Bool.eq_false_iff]
  intro e
  exact h (rightT_iff.1 e).1
theorem rightT_at {g : Int} {T : List (SiteZ × Int)} {k : Nat} {r : SiteZ × Int} (hk : T[k]? = some r) (h : ¬ (1 ≤ r.2 ∧ r.2 ≤ g)) : rightT g T = false := by
  rw [Bool.eq_false_iff]
  intro e
  exact h ((rightT_iff.1 e).2.1 r (List.mem_of_getElem? hk))
theorem rightT_rest {g : Int} {T : List (SiteZ × Int)} (h1 : 0 ≤ g ∧ g ≤ 253402300799) (h2 : ∀ r ∈ T, 1 ≤ r.2 ∧ r.2 ≤ g) : rightT g T = rightC (T.map (·.1)) := by
  rw [Bool.eq_iff_iff, rightT_iff]
  exact ⟨fun h => h.2.2, fun h => ⟨h1, h2, h⟩⟩
end Go.Pantry
namespace Go.Proofs.YtenijpcjemdhfaaGreatDoor
open Go.RowKit Go.Pantry

theorem few_same {L : List RuleZ} {L' : List (SiteZ × Value)} (h : FewR L) (e : L'.map (·.1) = L.map (·.1)) (hr : ∀ x ∈ L', Room x.2) : Few L' := by
  have hm : ∀ x ∈ L', ∃ y ∈ L, y.1 = x.1 := fun x hx => by
    have : x.1 ∈ L.map (·.1) := by rw [← e]; exact List.mem_map.2 ⟨x, hx, rfl⟩
    exact List.mem_map.1 this
  refine ⟨?_, hr, fun x hx => ?_, fun x hx => ?_, fun x hx => ?_⟩
  · have h1 := congrArg List.length e
    rw [List.length_map, List.length_map] at h1
    rw [h1]; exact h.len
  all_goals
    obtain ⟨y, hy, hyx⟩ := hm x hx
    rw [← hyx]
  · exact h.host y hy
  · exact h.heads y hy
  · exact h.texts y hy
set_option maxRecDepth 8000 in
theorem tableRight_any (g : Int) (v : Value) (L : List RuleZ) (w : World) (h : ReadsR w v L) (hf : FewR L) (hm : MaxOk w) (ht : Tab10 w) :
    Calls Tryz.prog 24 #[.agg #[.int .i64 g, v]] w fun e w' => e = .returned (.bool (rightT g (tT L))) ∧ Below w.heap.size w w' := by
  obtain ⟨ao, cap, hv, hcells⟩ := h.form
  subst hv
  have HP := hid h
  obtain ⟨n, hn⟩ : ∃ n, L.length = n := ⟨_, rfl⟩
  have hl : n ≤ 1000000 := by rw [← hn]; exact hf.len
  rw [hn] at HP ⊢
  obtain ⟨W, hW⟩ : ∃ W, w.alloc (.cells #[.int .i64 g, .slice ao n cap] 52) = W := ⟨_, rfl⟩
  have hb : Below w.heap.size w W := by rw [← hW]; exact below_alloc _ _
  have q1 : rowIs W w.heap.size #[.int .i64 g, .slice ao n cap] 52 := by rw [← hW]; exact rowIs_new _ _ _
  have HQ := hid (And.intro q1 hb)
  have HN := hid (And.intro hl hn)
  have HF := hid (And.intro hf (And.intro hm ht))
  have y0 := q1.cell 0
  have y1 := q1.cell 1
  clear h hcells hn q1 hb hf hm ht
  go_enter Tryz.func24, Tryz.ntmps24
  by_cases c1 : g < 0
  · go_wp2_with fail
    go_ret
    exact ⟨by rw [rightT_lo (by omega)]; rfl, HQ.out.2⟩
  by_cases c2 : 253402300799 < g
  · go_wp2_with fail
    go_ret
    exact ⟨by rw [rightT_lo (by omega)]; rfl, HQ.out.2⟩
  have HG := hid (show 0 ≤ g ∧ g ≤ 253402300799 by omega)
  go_wp2_with fail
  clear y0 y1 c1 c2 hW
  go_loopw [16] (fun z wr => ∃ (k : Nat), z = .int .i64 (k : Int) ∧ k ≤ n ∧ (∀ r ∈ (tT L).take k, 1 ≤ r.2 ∧ r.2 ≤ g) ∧ Below W.heap.size W wr) (fun z _ => n - (intOf z).toNat)
  case atStart => exact ⟨0, rfl, Nat.zero_le _, fun r hr => absurd hr (by simp), Below.refl _ _⟩
  case round =>
    obtain ⟨k, rfl, hk, hall, hb⟩ := hrel
    have HB := hid (And.intro hall (And.intro hb (chainP HQ.out.2 hb)))
    by_cases hlt : k < n
    · obtain ⟨⟨s, hvx, z⟩, hx⟩ : ∃ x, L[k]? = some x := by
        have := HN.out
        exact ⟨L[k]'(by omega), List.getElem?_eq_getElem (by omega)⟩
      have hrd := HP.out.heads _ (List.mem_of_getElem? hx)
      simp only at hrd
      obtain ⟨aox, cx, hfx⟩ := hrd.form
      obtain ⟨nx, hnx⟩ : ∃ n, (s.heads.map strV).length = n := ⟨_, rfl⟩
      rw [hnx] at hfx
      subst hfx
      obtain ⟨b, off, hao, hc⟩ := (HP.out.below HB.out.2.2).at_ hx
      subst hao
      obtain ⟨o, ho⟩ : ∃ o, off + k * 8 = o := ⟨_, rfl⟩
      rw [ho] at hc
      have x0 := hc 0 _ rfl
      have x1 := hc 1 _ rfl
      have x2 := hc 2 _ rfl
      have x3 := hc 3 _ rfl
      have x4 := hc 4 _ rfl
      have x5 := hc 5 _ rfl
      have x6 := hc 6 _ rfl
      have x7 := hc 7 _ rfl
      rw [Nat.add_zero] at x0
      have hx2 : (tT L)[k]? = some (s, z) := by unfold tT; rw [List.getElem?_map, hx]; rfl
      have HX := hid hx2
      have hkI : (k : Int) < (n : Int) := by omega
      have hk0 : (0 : Int) ≤ (k : Int) := by omega
      have hkw : IntKind.i64.wrap ((k : Int) + 1) = (k : Int) + 1 := IntWalk.i64_in _ (by omega)
      have z7 : (wr.alloc (.cells (rowRz (s, .slice aox nx cx, z)) 66)).cell? ⟨wr.heap.size, 7, none⟩ = some (.int .i64 z) := (rowIs_new _ _ _).cell 7
      have z0 : (wr.alloc (.cells (rowRz (s, .slice aox nx cx, z)) 66)).cell? ⟨w.heap.size, 0, none⟩ = some (.int .i64 g) := ((HQ.out.1.below hb).below (below_alloc _ _)).cell 0
      have HBX := hid (below_alloc wr (.cells (rowRz (s, .slice aox nx cx, z)) 66))
      clear hb hall hc hx hx2 hnx hrd
      by_cases c1 : z < 1
      · go_wp2_with fail
        go_ret
        exact ⟨by rw [rightT_at HX.out (by simp only; omega)]; rfl, chainP HB.out.2.2 HBX.out⟩
      by_cases c2 : g < z
      · go_wp2_with fail
        go_ret
        exact ⟨by rw [rightT_at HX.out (by simp only; omega)]; rfl, chainP HB.out.2.2 HBX.out⟩
      have HZ := hid (show 1 ≤ z ∧ z ≤ g by omega)
      go_wp2_with fail
      clear x0 x1 x2 x3 x4 x5 x6 x7 z7 z0
      go_roundw
      case rel =>
        refine ⟨k + 1, by go_num, hlt, fun r hr => ?_, chainP HB.out.2.1 HBX.out⟩
        rw [List.take_add_one, HX.out] at hr
        rcases List.mem_append.1 hr with e | e
        · exact HB.out.1 r e
        · obtain rfl : r = (s, z) := by simpa using e
          exact HZ.out
      case measure => simp [intOf]; omega
    · have hkn : k = n := by omega
      have e0 : (tT L).take k = tT L := List.take_of_length_le (by rw [tT_len]; have := HN.out; omega)
      rw [e0] at hall
      have HR := hid (rightT_rest HG.out hall)
      have r1 : rowIs wr w.heap.size #[.int .i64 g, .slice ao n cap] 52 := HQ.out.1.below hb
      have y0 := r1.cell 0
      have y1 := r1.cell 1
      have hkI : ¬ (k : Int) < (n : Int) := by omega
      have cc := tableConfig_any g (.slice ao n cap) L wr (HP.out.below HB.out.2.2) HF.out.1.len HF.out.1.heads
      have CC := hid cc
      clear hall hb hkn e0 r1 cc
      go_wp2_with fail
      refine CC.out.mono ?_
      rintro e w2 ⟨v2, L2, rfl, he2, hr2, hro2, hb2⟩
      have hb2' := chainP HB.out.2.2 hb2
      have HB2 := hid hb2'
      obtain ⟨a2, c2, hf2, -⟩ := hr2.form
      obtain ⟨n2, hn2⟩ : ∃ n, L2.length = n := ⟨_, rfl⟩
      have cr := configRight_any v2 L2 w2 hr2 (few_same HF.out.1 he2 hro2) (HF.out.2.1.below hb2') (HF.out.2.2.below hb2')
      have e3 : rightC (L2.map (·.1)) = rightT g (tT L) := by rw [HR.out, he2, tT_map]
      rw [e3] at cr
      rw [hn2] at hf2
      subst hf2
      have CR := hid cr
      clear y0 y1 hb2 hb2' he2 hr2 hro2 cr e3 hn2
      go_wp2_with fail
      refine CR.out.mono ?_
      rintro e w3 ⟨rfl, hb3⟩
      go_wp2_with fail
      go_ret
      exact ⟨rfl, chainP HB2.out hb3⟩
end Go.Proofs.YtenijpcjemdhfaaGreatDoor
/-
  Contracts of package plan: a table's Find.
-/
namespace Go.Proofs.YtenijpcjemdhfaaGreatDoor
open Go.RowKit Go.Pantry

abbrev zeroRule : Array Value := #[.string ⟨#[]⟩, .int .i64 0, .int .i64 0, .int .i64 0, .bool false, .bool false, .slice none 0 0, .int .i64 0]
theorem infoRule : (Tryz.prog.info? 66).map (·.size) = some 8 := by kernel_rfl
theorem oneRule (h : List UInt8) (a b c : Int) (d e : Bool) (ao : Option Addr) (n cap : Nat) (z : Int) : (#[strV h, .int .i64 a, .int .i64 b, .int .i64 c, .bool d, .bool e, .slice ao n cap, .int .i64 z] : Array Value).all (·.oneCell') = true := by simp [Value.oneCell']
/-- the first rules of that host -/
def RFindPost (w : World) (L : List RuleZ) (host : List UInt8) (e : Ending) (w' : World) : Prop :=
  (match L.find? (fun x => x.1.host == host) with
    | some x => ∃ hv, e = .returned (.tuple #[.agg (rowRz (x.1, hv, x.2.2)), .bool true]) ∧ Reads w' hv (x.1.heads.map strV)
    | none => e = .returned (.tuple #[.agg zeroRule, .bool false])) ∧ Below w.heap.size w w'
set_option maxRecDepth 8000 in
theorem tableFind_any (g : Int) (v : Value) (L : List RuleZ) (host : List UInt8) (w : World) (h : ReadsR w v L) (hl : L.length ≤ 1000000) (hh : ∀ x ∈ L, x.1.heads.length ≤ 1000000) :
    Calls Tryz.prog 28 #[.agg #[.int .i64 g, v], strV host] w (RFindPost w L host) := by
  obtain ⟨n, hn⟩ : ∃ n, L.length = n := ⟨_, rfl⟩
  obtain ⟨ao, c, e1, f1⟩ := h.form
  rw [hn] at e1
  subst e1
  have HR := hid h
  have HH := hid hh
  have HL := hid hn
  have hnl : n ≤ 1000000 := by omega
  obtain ⟨W, hW⟩ : ∃ W, (w.alloc (.cells #[.int .i64 g, .slice ao n c] 52)).alloc (.cells zeroRule 66) = W := ⟨_, rfl⟩
  obtain ⟨A, hA⟩ : ∃ A, w.heap.size + 1 = A := ⟨_, rfl⟩
  have J0 : Hid (rowIs W A zeroRule 66 ∧ Below w.heap.size w W) :=
    ⟨by rw [← hW]; exact rowIs_new_at _ _ _ _ (by simp; omega), by rw [← hW]; exact chainP (below_alloc _ _) (below_alloc _ _)⟩
  have HA := hid hA
  have j1 : W.cell? ⟨w.heap.size, 1, none⟩ = some (.slice ao n c) := by rw [← hW]; exact ((rowIs_new w #[.int .i64 g, .slice ao n c] 52).below (below_alloc _ _)).cell 1
  clear h hn hh hl f1 hA
  go_enter Tryz.func28, Tryz.ntmps28
  go_wp2_with fail
  clear j1 hW
  go_loopw [11] (fun z wr => ∃ (k : Nat), z = .int .i64 (k : Int) ∧ k ≤ n ∧ rowIs wr A zeroRule 66 ∧ Below w.heap.size w wr ∧ (L.take k).find? (fun x => x.1.host == host) = none) (fun z _ => n - (intOf z).toNat)
  case atStart => exact ⟨0, rfl, Nat.zero_le _, J0.out.1, J0.out.2, rfl⟩
  case round =>
    clear J0
    obtain ⟨k, rfl, hk, hra, hb, hf⟩ := hrel
    have HB := hid (And.intro hra (And.intro hb hf))
    by_cases hlt : k < n
    · obtain ⟨⟨s, hv, z⟩, hx⟩ : ∃ x, L[k]? = some x := by
        have := HL.out
        exact ⟨L[k]'(by omega), List.getElem?_eq_getElem (by omega)⟩
      obtain ⟨ah, ch, hfv⟩ := (HR.out.heads _ (List.mem_of_getElem? hx)).form
      simp only at hfv
      obtain ⟨nh, hnh⟩ : ∃ nh, (s.heads.map strV).length = nh := ⟨_, rfl⟩
      rw [hnh] at hfv
      subst hfv
      obtain ⟨b1, o1, g1, i1⟩ := (HR.out.below hb).at_ hx
      subst g1
      have hkI : (k : Int) < (n : Int) := by omega
      have hk0 : (0 : Int) ≤ (k : Int) := by omega
      have hkw : IntKind.i64.wrap ((k : Int) + 1) = (k : Int) + 1 := IntWalk.i64_in _ (by omega)
      obtain ⟨p1, hp1⟩ : ∃ p, o1 + k * 8 = p := ⟨_, rfl⟩
      rw [hp1] at i1
      have y0 := i1 0 _ rfl
      have y1 := i1 1 _ rfl
      have y2 := i1 2 _ rfl
      have y3 := i1 3 _ rfl
      have y4 := i1 4 _ rfl
      have y5 := i1 5 _ rfl
      have y6 := i1 6 _ rfl
      have y7 := i1 7 _ rfl
      rw [Nat.add_zero] at y0
      have hhd := (HR.out.heads _ (List.mem_of_getElem? hx)).below hb
      have HX := hid (And.intro hx hhd)
      have hhl : s.heads.length ≤ 1000000 := HH.out _ (List.mem_of_getElem? hx)
      have z0 : (wr.alloc (.cells (rowRz (s, .slice ah nh ch, z)) 66)).cell? ⟨wr.heap.size, 0, none⟩ = some (strV s.host) := (rowIs_new _ _ _).cell 0
      have hr1 : rowIs (wr.alloc (.cells (rowRz (s, .slice ah nh ch, z)) 66)) wr.heap.size (rowRz (s, .slice ah nh ch, z)) 66 := rowIs_new _ _ _
      clear hb hx i1 hra hf hnh hhd
      by_cases hm : s.host = host
      · subst hm
        have z1 : (s.host == s.host) = true := by simp
        have HR1 := hid hr1
        go_wp2_with (first
          | (refine wpList_load_site rfl 64 _ rfl wr.heap.size rfl (r := (s, .slice ah nh ch, z)) (t := 66) hr1 Tryz.underlying64 rfl infoSite ?_))
        change Calls _ _ _ (wr.alloc (.cells (rowRz (s, .slice ah nh ch, z)) 66)) _
        obtain ⟨W1, hW1⟩ : ∃ W, wr.alloc (.cells (rowRz (s, .slice ah nh ch, z)) 66) = W := ⟨_, rfl⟩
        have hb1 : Below wr.heap.size wr W1 := by rw [← hW1]; exact below_alloc _ _
        rw [hW1] at hr1 ⊢
        clear y0 y1 y2 y3 y4 y5 y6 y7 z0 HR1 hW1
        refine (own_any (.slice ah nh ch) s W1 (HX.out.2.below hb1) hhl).mono ?_
        rintro e w3 ⟨v3, rfl, hr3, hb3⟩
        obtain ⟨a3, c3, hf3⟩ := ownsRow_formN hr3
        obtain ⟨n3, hn3⟩ : ∃ n3, s.heads.length = n3 := ⟨_, rfl⟩
        rw [hn3] at hf3 hr3
        subst hf3
        have HBB := hid (And.intro (hb1.trans (hb3.mono hb1.size)) (And.intro (chainP (chainP HB.out.2.1 hb1) hb3) hr1.lt))
        have hrx := hr1.below hb3
        have hra := (HB.out.1.below hb1).below hb3
        have hne : A ≠ wr.heap.size := by have := HA.out; have := HB.out.1.lt; omega
        have hra2 := hra.setRow_other (rowRz (s, .slice a3 n3 c3, z)) hne
        have hrx2 := hrx.setRow (rowRz (s, .slice a3 n3 c3, z))
        have HR3 := hid hr3
        rw [← HA.out] at hra2
        clear hn3 hr3 hra hb1 hb3 hr1
        go_wp2_with (first
          | (refine wpList_store_site rfl 64 _ _ rfl wr.heap.size (.slice a3 n3 c3) s rfl rfl (r := (s, .slice ah nh ch, z)) (t := 66) hrx infoSite (oneSite _ _ _ _ _ _ _ _ _) ?_)
          | (refine wpList_load_row rfl 66 _ rfl wr.heap.size rfl 66 _ (0, 0) _ hrx2 Tryz.underlying66 rfl infoRule ?_)
          | (refine wpList_store_row rfl 66 _ _ rfl (w.heap.size + 1) _ rfl rfl 66 _ hra2 infoRule rfl (oneRule _ _ _ _ _ _ _ _ _ _) ?_))
        refine bodyPost_ret (results_row2 Tryz.results28 _ _ (w.heap.size + 1) _ rfl (hra2.setRow (rowRz (s, .slice a3 n3 c3, z))) Tryz.underlying66 rfl infoRule) rfl ?_
        have kk := ((Kept.refl (fun g => g = wr.heap.size ∨ g = w.heap.size + 1) w3).setRow (g := wr.heap.size) (.inl (.inl rfl)) (rowRz (s, .slice a3 n3 c3, z))).setRow (g := w.heap.size + 1) (.inl (.inr rfl)) (rowRz (s, .slice a3 n3 c3, z))
        have ho := ownsRow_kept HR3.out kk (fun g hg hX => by
          have h1 := (HR3.out.lt _ hg).1
          have h2 := HBB.out.2.2
          have h3 := HB.out.1.lt
          have h4 := HA.out
          rcases hX with e | e <;> omega)
        have hfd : L.find? (fun x => x.1.host == s.host) = some (s, .slice ah nh ch, z) := by
          obtain ⟨hkl, hkx⟩ := List.getElem?_eq_some_iff.1 HX.out.1
          rw [← List.take_append_drop k L, List.find?_append, HB.out.2.2, Option.none_or, List.drop_eq_getElem_cons hkl, hkx]
          simp
        refine ⟨?_, ?_⟩
        · rw [hfd]
          exact ⟨.slice a3 n3 c3, rfl, ho.reads⟩
        · refine ((Kept.of_below (X := fun g => g = wr.heap.size ∨ g = w.heap.size + 1) HBB.out.2.1).setRow (g := wr.heap.size) (.inl (.inl rfl)) (rowRz (s, .slice a3 n3 c3, z))).setRow (g := w.heap.size + 1) (.inl (.inr rfl)) (rowRz (s, .slice a3 n3 c3, z)) |>.below (fun g h _ => ?_) (Nat.le_refl _)
          have := HB.out.2.1.size
          rcases h with e | e <;> omega
      · have z1 : (s.host == host) = false := by simp [hm]
        have HR1 := hid hr1
        clear hr1
        go_wp2_with fail
        go_roundw
        case rel =>
          refine ⟨k + 1, by go_num, hlt, HB.out.1.below (below_alloc _ _), chainP HB.out.2.1 (below_alloc _ _), ?_⟩
          rw [List.take_add_one, HX.out.1]
          simp [HB.out.2.2, hm]
        case measure => simp [intOf]; omega
    · have hkn : k = n := by omega
      have hfn : L.find? (fun x => x.1.host == host) = none := by
        have := HB.out.2.2
        rwa [List.take_of_length_le (by have := HL.out; omega)] at this
      have hkI : ¬ (k : Int) < (n : Int) := by omega
      rw [← HA.out] at hra
      clear hb hf hkn
      go_wp2_with (refine wpList_store_row rfl 66 _ _ rfl (w.heap.size + 1) _ rfl rfl 66 _ hra infoRule rfl (oneRule [] _ _ _ _ _ _ _ _ _) ?_)
      refine bodyPost_ret (results_row2 Tryz.results28 _ _ (w.heap.size + 1) _ rfl (hra.setRow zeroRule) Tryz.underlying66 rfl infoRule) rfl ?_
      refine ⟨?_, below_setRow HB.out.2.1 (by omega) _⟩
      rw [hfn]; rfl
end Go.Proofs.YtenijpcjemdhfaaGreatDoor
/-
  The document's answers of layer 10: rules, kind, put.
-/
namespace Go.Pantry
open Go.RowKit
theorem riseL_len (l : List (List UInt8)) (h : List UInt8) : (riseL l h).length ≤ l.length + 1 := by
  induction l with
  | nil => simp [riseL]
  | cons x l ih =>
    unfold riseL
    split
    · simp; omega
    · split <;> simp
theorem findS_at {L : List (SiteZ × Value)} {h : List UInt8} {x : SiteZ × Value} (e : L.find? (fun x => x.1.host == h) = some x) : findS (L.map (·.1)) h = some x.1 := by rw [findS_map, e]; rfl
theorem findS_no {L : List (SiteZ × Value)} {h : List UInt8} (e : L.find? (fun x => x.1.host == h) = none) : findS (L.map (·.1)) h = none := by rw [findS_map, e]; rfl
end Go.Pantry
namespace Go.Proofs.YtenijpcjemdhfaaGreatDoor
open Go.RowKit Go.Pantry

set_option maxRecDepth 8000 in
set_option maxHeartbeats 4000000 in
theorem refRules_any (h1 h2 : Value) (a b : SiteZ) (w : World) (r1 : Reads w h1 (a.heads.map strV)) (r2 : Reads w h2 (b.heads.map strV)) (hl : a.heads.length ≤ 1000000) (hl2 : b.heads.length ≤ 1000000) :
    Calls Tryz.prog 68 #[.agg (rowZ h1 a), .agg (rowZ h2 b)] w fun e w' => e = .returned (.bool (sameR a b)) ∧ Below w.heap.size w w' := by
  obtain ⟨ao1, c1, e1⟩ := r1.form
  obtain ⟨ao2, c2, e2⟩ := r2.form
  obtain ⟨n, hn⟩ : ∃ n, (a.heads.map strV).length = n := ⟨_, rfl⟩
  obtain ⟨m, hm⟩ : ∃ n, (b.heads.map strV).length = n := ⟨_, rfl⟩
  rw [hn] at e1
  rw [hm] at e2
  subst e1 e2
  obtain ⟨W, hW⟩ : ∃ W, (w.alloc (.cells (rowZ (.slice ao1 n c1) a) 70)).alloc (.cells (rowZ (.slice ao2 m c2) b) 70) = W := ⟨_, rfl⟩
  have hb : Below w.heap.size w W := by rw [← hW]; exact chainP (below_alloc _ _) (below_alloc _ _)
  have q1 : rowIs W w.heap.size (rowZ (.slice ao1 n c1) a) 70 := by rw [← hW]; exact (rowIs_new _ _ _).below (below_alloc _ _)
  have q2 : rowIs W (w.heap.size + 1) (rowZ (.slice ao2 m c2) b) 70 := by rw [← hW]; exact rowIs_new_at _ _ _ _ (by simp)
  have y0 : W.cell? ⟨w.heap.size + 1, 0, none⟩ = some (strV b.host) := q2.cell 0
  have z0 := q1.cell 0
  have zf := q1.free 0
  have k1 := q1.setCell 0 (strV b.host)
  have k2 := q2.setCell_block (g' := w.heap.size) (by omega) 0 (strV b.host)
  have hbs : Below w.heap.size w (W.setCell ⟨w.heap.size, 0, none⟩ (strV b.host)) := hb.setCell (Nat.le_refl _) _
  have ca := alike_any (.slice ao1 n c1) (.slice ao2 m c2) { a with host := b.host } b (W.setCell ⟨w.heap.size, 0, none⟩ (strV b.host)) (r1.below hbs) (r2.below hbs) hl hl2
  have e0 : alikeB { a with host := b.host } b = sameR a b := by unfold alikeB sameR; simp
  rw [e0] at ca
  have CA := hid ca
  have HB := hid hbs
  clear r1 r2 hn hm hb q1 q2 ca hbs hl hl2 e0
  go_enter Tryz.func68, Tryz.ntmps68
  go_wp2_with (first
    | (refine wpList_load_row rfl 70 _ rfl w.heap.size rfl 70 _ (0, 0) _ k1 Tryz.underlying70 rfl infoRefSite ?_)
    | (refine wpList_load_row rfl 70 _ rfl (w.heap.size + 1) rfl 70 _ (0, 0) _ k2 Tryz.underlying70 rfl infoRefSite ?_))
  refine CA.out.mono ?_
  rintro e w1 ⟨rfl, hb1⟩
  clear k1 k2 y0 z0 zf hW
  go_wp2_with fail
  go_ret
  exact ⟨rfl, chainP HB.out hb1⟩
set_option maxRecDepth 100000 in
set_option maxHeartbeats 8000000 in
theorem refKind_any (vA vB : Value) (LA LB : List (SiteZ × Value)) (h : List UInt8) (w : World) (hA : ReadsP w vA LA) (hB : ReadsP w vB LB) (hla : LA.length ≤ 1000000) (hlb : LB.length ≤ 1000000) (hha : ∀ x ∈ LA, x.1.heads.length ≤ 1000000) (hhb : ∀ x ∈ LB, x.1.heads.length ≤ 1000000) :
    Calls Tryz.prog 47 #[.agg #[vA], .agg #[vB], strV h] w fun e w' => e = .returned (.int .i64 ((kindD (LA.map (·.1)) (LB.map (·.1)) h : Nat) : Int)) ∧ Below w.heap.size w w' := by
  obtain ⟨ao, c, e1, f1⟩ := hA.form
  obtain ⟨bo, d, e2, f2⟩ := hB.form
  obtain ⟨n, hln⟩ : ∃ n, LA.length = n := ⟨_, rfl⟩
  obtain ⟨m, hlm⟩ : ∃ n, LB.length = n := ⟨_, rfl⟩
  rw [hln] at e1
  rw [hlm] at e2
  subst e1 e2
  obtain ⟨W, hW⟩ : ∃ W, (w.alloc (.cells #[.slice ao n c] 33)).alloc (.cells #[.slice bo m d] 33) = W := ⟨_, rfl⟩
  have hb : Below w.heap.size w W := by rw [← hW]; exact chainP (below_alloc _ _) (below_alloc _ _)
  have q1 : rowIs W w.heap.size #[.slice ao n c] 33 := by rw [← hW]; exact (rowIs_new _ _ _).below (below_alloc _ _)
  have q2 : rowIs W (w.heap.size + 1) #[.slice bo m d] 33 := by rw [← hW]; exact rowIs_new_at _ _ _ _ (by simp)
  have y1 : W.cell? ⟨w.heap.size, 0, none⟩ = some (.slice ao n c) := q1.cell 0
  have HH := hid (And.intro hA (And.intro hB (And.intro hha hhb)))
  have HL := hid (And.intro hln (And.intro hlm (And.intro hla hlb)))
  have HQ := hid (And.intro q1 (And.intro q2 hb))
  have cf := refFindC_any (.slice ao n c) LA h W (hA.below hb) hla
  have CF := hid cf
  clear hA hB hla hlb hha hhb hln hlm hb q1 q2 cf f1 f2
  go_enter Tryz.func47, Tryz.ntmps47
  go_wp2_with fail
  refine CF.out.mono ?_
  rintro e w1 ⟨hp1, hb1⟩
  have HB1 := hid (chainP HQ.out.2.2 hb1)
  have HBB := hid hb1
  have y2 : w1.cell? ⟨w.heap.size + 1, 0, none⟩ = some (.slice bo m d) := (HQ.out.2.1.below hb1).cell 0
  have cg := refFindC_any (.slice bo m d) LB h w1 (HH.out.2.1.below HB1.out) HL.out.2.2.2
  have CG := hid cg
  clear y1 hW hb1 cg
  rcases hp1 with ⟨i, x, rfl, hi, hx⟩ | ⟨rfl, hx⟩
  · have HX := hid (And.intro hi hx)
    clear hi hx
    go_wp2_with fail
    refine CG.out.mono ?_
    rintro e w2 ⟨hp2, hb2⟩
    have HB2 := hid (And.intro (chainP HB1.out hb2) (chainP HBB.out hb2))
    clear y2 hb2
    rcases hp2 with ⟨k, y, rfl, hk, hy⟩ | ⟨rfl, hy⟩
    rotate_left
    · have HY := hid (findS_no hy)
      clear hy
      go_wp2_with fail
      go_ret
      refine ⟨?_, HB2.out.1⟩
      unfold kindD
      rw [HY.out]
      rfl
    have HY := hid (And.intro hk hy)
    have hlk := (List.getElem?_eq_some_iff.1 hk).1
    have hli := (List.getElem?_eq_some_iff.1 HX.out.1).1
    rw [HL.out.1] at hli
    rw [HL.out.2.1] at hlk
    have hkI : (k : Int) < (m : Int) := by omega
    have hk0 : (0 : Int) ≤ (k : Int) := by omega
    have hiI : (i : Int) < (n : Int) := by omega
    have hi0 : (0 : Int) ≤ (i : Int) := by omega
    have hkn : decide ((k : Int) < 0) = false := decide_eq_false (by omega)
    have hin : decide ((i : Int) < 0) = false := decide_eq_false (by omega)
    have hkn' : ¬ (k : Int) < 0 := by omega
    have hin' : ¬ (i : Int) < 0 := by omega
    obtain ⟨b1, o1, g1, i1⟩ := (HH.out.1.below HB2.out.1).at_ HX.out.1
    obtain ⟨b2, o2, g2, i2⟩ := (HH.out.2.1.below HB2.out.1).at_ hk
    subst g1 g2
    have hrx := (HH.out.1.heads _ (List.mem_of_getElem? HX.out.1)).below HB2.out.1
    have hry := (HH.out.2.1.heads _ (List.mem_of_getElem? hk)).below HB2.out.1
    have hlx := HH.out.2.2.1 _ (List.mem_of_getElem? HX.out.1)
    have hly := HH.out.2.2.2 _ (List.mem_of_getElem? hk)
    obtain ⟨xs, xv⟩ := x
    obtain ⟨ys, yv⟩ := y
    obtain ⟨ax, cx, ex⟩ := hrx.form
    obtain ⟨ay, cy, ey⟩ := hry.form
    obtain ⟨nx, hnx⟩ : ∃ n, (xs.heads.map strV).length = n := ⟨_, rfl⟩
    obtain ⟨ny, hny⟩ : ∃ n, (ys.heads.map strV).length = n := ⟨_, rfl⟩
    simp only at ex ey hrx hry hlx hly
    rw [hnx] at ex
    rw [hny] at ey
    subst ex ey
    obtain ⟨p1, hp1⟩ : ∃ p, o1 + i * 7 = p := ⟨_, rfl⟩
    obtain ⟨p2, hp2⟩ : ∃ p, o2 + k * 7 = p := ⟨_, rfl⟩
    rw [hp1] at i1
    rw [hp2] at i2
    have t1 := i1 0 _ rfl
    rw [Nat.add_zero] at t1
    have X0 := hid t1
    have X1 := hid (i1 1 _ rfl)
    have X2 := hid (i1 2 _ rfl)
    have X3 := hid (i1 3 _ rfl)
    have X4 := hid (i1 4 _ rfl)
    have X5 := hid (i1 5 _ rfl)
    have X6 := hid (i1 6 _ rfl)
    have t2 := i2 0 _ rfl
    rw [Nat.add_zero] at t2
    have Y0 := hid t2
    have Y1 := hid (i2 1 _ rfl)
    have Y2 := hid (i2 2 _ rfl)
    have Y3 := hid (i2 3 _ rfl)
    have Y4 := hid (i2 4 _ rfl)
    have Y5 := hid (i2 5 _ rfl)
    have Y6 := hid (i2 6 _ rfl)
    have KA := hid (show w2.cell? ⟨w.heap.size, 0, none⟩ = some (.slice (some ⟨b1, o1, none⟩) n c) from (HQ.out.1.below HB2.out.2).cell 0)
    have KB := hid (show w2.cell? ⟨w.heap.size + 1, 0, none⟩ = some (.slice (some ⟨b2, o2, none⟩) m d) from (HQ.out.2.1.below HB2.out.2).cell 0)
    have CR : Hid (∀ W, Below w2.heap.size w2 W → Calls Tryz.prog 68 #[.agg (rowZ (.slice ax nx cx) xs), .agg (rowZ (.slice ay ny cy) ys)] W fun e w' => e = .returned (.bool (sameR xs ys)) ∧ Below W.heap.size W w') := fun W hS =>
      refRules_any (.slice ax nx cx) (.slice ay ny cy) xs ys W (hrx.below hS) (hry.below hS) hlx hly
    have HKD : Hid (∀ q, sameR xs ys = q → kindD (LA.map (·.1)) (LB.map (·.1)) h = if q then 0 else 1) := fun q hq => by
      have e1 := findS_at HX.out.2
      have e2 := findS_at HY.out.2
      have e3 := (findS_host e2).1
      unfold kindD
      rw [e2]
      simp only at e3 ⊢
      unfold kindP
      rw [e3, e1]
      simp only [hq]
    obtain ⟨q, hq⟩ : ∃ q, sameR xs ys = q := ⟨_, rfl⟩
    rw [hq] at CR
    have HKQ := hid (HKD.out q hq)
    clear hk hy i1 i2 t1 t2 hrx hry hlx hly hnx hny hq hli hlk
    go_wp2_with fail
    refine wp_region_U [] (by kernel_rfl) (fun _ W => Below w2.heap.size w2 W) (b := []) (by kernel_rfl) ((Below.refl _ _).drew) ?_
    refine wpAnyU_take (i := 0) (v := ?_) (by decide) rfl (by kernel_rfl) (by kernel_rfl) (by kernel_rfl) (fun _ _ _ h => h) (Steady.plain (by kernel_rfl) ?_) ?_
    rotate_left
    · intro b W hS
      have ka := kept KA.out hS
      have kb := kept KB.out hS
      have x0 := kept X0.out hS
      have x1 := kept X1.out hS
      have x2 := kept X2.out hS
      have x3 := kept X3.out hS
      have x4 := kept X4.out hS
      have x5 := kept X5.out hS
      have x6 := kept X6.out hS
      have y0 := kept Y0.out hS
      have y1 := kept Y1.out hS
      have y2 := kept Y2.out hS
      have y3 := kept Y3.out hS
      have y4 := kept Y4.out hS
      have y5 := kept Y5.out hS
      have y6 := kept Y6.out hS
      go_simp
      first | done | with_reducible rfl
    simp only [Act.put, List.getElem_toArray, List.getElem_cons_succ, List.getElem_cons_zero, List.setIfInBounds_toArray, List.set_cons_zero, List.set_cons_succ]
    refine wpAnyU_take (i := 1) (v := ?_) (by decide) rfl (by kernel_rfl) (by kernel_rfl) (by kernel_rfl) (fun _ _ _ h => h) (Steady.plain (by kernel_rfl) ?_) ?_
    rotate_left
    · intro b W hS
      have ka := kept KA.out hS
      have kb := kept KB.out hS
      have x0 := kept X0.out hS
      have x1 := kept X1.out hS
      have x2 := kept X2.out hS
      have x3 := kept X3.out hS
      have x4 := kept X4.out hS
      have x5 := kept X5.out hS
      have x6 := kept X6.out hS
      have y0 := kept Y0.out hS
      have y1 := kept Y1.out hS
      have y2 := kept Y2.out hS
      have y3 := kept Y3.out hS
      have y4 := kept Y4.out hS
      have y5 := kept Y5.out hS
      have y6 := kept Y6.out hS
      go_simp
      first | done | with_reducible rfl
    simp only [Act.put, List.getElem_toArray, List.getElem_cons_succ, List.getElem_cons_zero, List.setIfInBounds_toArray, List.set_cons_zero, List.set_cons_succ]
    refine wpAnyU_take (i := 2) (v := ?_) (by decide) rfl (by kernel_rfl) (by kernel_rfl) (by kernel_rfl) (fun _ _ _ h => h) (Steady.plain (by kernel_rfl) ?_) ?_
    rotate_left
    · intro b W hS
      have ka := kept KA.out hS
      have kb := kept KB.out hS
      have x0 := kept X0.out hS
      have x1 := kept X1.out hS
      have x2 := kept X2.out hS
      have x3 := kept X3.out hS
      have x4 := kept X4.out hS
      have x5 := kept X5.out hS
      have x6 := kept X6.out hS
      have y0 := kept Y0.out hS
      have y1 := kept Y1.out hS
      have y2 := kept Y2.out hS
      have y3 := kept Y3.out hS
      have y4 := kept Y4.out hS
      have y5 := kept Y5.out hS
      have y6 := kept Y6.out hS
      go_simp
      first | done | with_reducible rfl
    simp only [Act.put, List.getElem_toArray, List.getElem_cons_succ, List.getElem_cons_zero, List.setIfInBounds_toArray, List.set_cons_zero, List.set_cons_succ]
    refine wpAnyU_take (i := 3) (v := ?_) (by decide) rfl (by kernel_rfl) (by kernel_rfl) (by kernel_rfl) (fun _ _ _ h => h) (Steady.plain (by kernel_rfl) ?_) ?_
    rotate_left
    · intro b W hS
      have ka := kept KA.out hS
      have kb := kept KB.out hS
      have x0 := kept X0.out hS
      have x1 := kept X1.out hS
      have x2 := kept X2.out hS
      have x3 := kept X3.out hS
      have x4 := kept X4.out hS
      have x5 := kept X5.out hS
      have x6 := kept X6.out hS
      have y0 := kept Y0.out hS
      have y1 := kept Y1.out hS
      have y2 := kept Y2.out hS
      have y3 := kept Y3.out hS
      have y4 := kept Y4.out hS
      have y5 := kept Y5.out hS
      have y6 := kept Y6.out hS
      go_simp
      first | done | with_reducible rfl
    simp only [Act.put, List.getElem_toArray, List.getElem_cons_succ, List.getElem_cons_zero, List.setIfInBounds_toArray, List.set_cons_zero, List.set_cons_succ]
    refine wpAnyU_take (i := 4) (v := ?_) (by decide) rfl (by kernel_rfl) (by kernel_rfl) (by kernel_rfl) (fun _ _ _ h => h) (Steady.plain (by kernel_rfl) ?_) ?_
    rotate_left
    · intro b W hS
      have ka := kept KA.out hS
      have kb := kept KB.out hS
      have x0 := kept X0.out hS
      have x1 := kept X1.out hS
      have x2 := kept X2.out hS
      have x3 := kept X3.out hS
      have x4 := kept X4.out hS
      have x5 := kept X5.out hS
      have x6 := kept X6.out hS
      have y0 := kept Y0.out hS
      have y1 := kept Y1.out hS
      have y2 := kept Y2.out hS
      have y3 := kept Y3.out hS
      have y4 := kept Y4.out hS
      have y5 := kept Y5.out hS
      have y6 := kept Y6.out hS
      go_simp
      first | done | with_reducible rfl
    simp only [Act.put, List.getElem_toArray, List.getElem_cons_succ, List.getElem_cons_zero, List.setIfInBounds_toArray, List.set_cons_zero, List.set_cons_succ]
    refine wpAnyU_take (i := 5) (v := ?_) (by decide) rfl (by kernel_rfl) (by kernel_rfl) (by kernel_rfl) (fun _ _ _ h => h) (Steady.plain (by kernel_rfl) ?_) ?_
    rotate_left
    · intro b W hS
      have ka := kept KA.out hS
      have kb := kept KB.out hS
      have x0 := kept X0.out hS
      have x1 := kept X1.out hS
      have x2 := kept X2.out hS
      have x3 := kept X3.out hS
      have x4 := kept X4.out hS
      have x5 := kept X5.out hS
      have x6 := kept X6.out hS
      have y0 := kept Y0.out hS
      have y1 := kept Y1.out hS
      have y2 := kept Y2.out hS
      have y3 := kept Y3.out hS
      have y4 := kept Y4.out hS
      have y5 := kept Y5.out hS
      have y6 := kept Y6.out hS
      go_simp
      first | done | with_reducible rfl
    simp only [Act.put, List.getElem_toArray, List.getElem_cons_succ, List.getElem_cons_zero, List.setIfInBounds_toArray, List.set_cons_zero, List.set_cons_succ]
    refine wpAnyU_take (i := 6) (v := ?_) (by decide) rfl (by kernel_rfl) (by kernel_rfl) (by kernel_rfl) (fun _ _ _ h => h) (Steady.plain (by kernel_rfl) ?_) ?_
    rotate_left
    · intro b W hS
      have ka := kept KA.out hS
      have kb := kept KB.out hS
      have x0 := kept X0.out hS
      have x1 := kept X1.out hS
      have x2 := kept X2.out hS
      have x3 := kept X3.out hS
      have x4 := kept X4.out hS
      have x5 := kept X5.out hS
      have x6 := kept X6.out hS
      have y0 := kept Y0.out hS
      have y1 := kept Y1.out hS
      have y2 := kept Y2.out hS
      have y3 := kept Y3.out hS
      have y4 := kept Y4.out hS
      have y5 := kept Y5.out hS
      have y6 := kept Y6.out hS
      go_simp
      first | done | with_reducible rfl
    simp only [Act.put, List.getElem_toArray, List.getElem_cons_succ, List.getElem_cons_zero, List.setIfInBounds_toArray, List.set_cons_zero, List.set_cons_succ]
    refine wpAnyU_take (i := 7) (v := ?_) (by decide) rfl (by kernel_rfl) (by kernel_rfl) (by kernel_rfl) (fun _ _ _ h => h) (Steady.plain (by kernel_rfl) ?_) ?_
    rotate_left
    · intro b W hS
      have ka := kept KA.out hS
      have kb := kept KB.out hS
      have x0 := kept X0.out hS
      have x1 := kept X1.out hS
      have x2 := kept X2.out hS
      have x3 := kept X3.out hS
      have x4 := kept X4.out hS
      have x5 := kept X5.out hS
      have x6 := kept X6.out hS
      have y0 := kept Y0.out hS
      have y1 := kept Y1.out hS
      have y2 := kept Y2.out hS
      have y3 := kept Y3.out hS
      have y4 := kept Y4.out hS
      have y5 := kept Y5.out hS
      have y6 := kept Y6.out hS
      go_simp
      first | done | with_reducible rfl
    simp only [Act.put, List.getElem_toArray, List.getElem_cons_succ, List.getElem_cons_zero, List.setIfInBounds_toArray, List.set_cons_zero, List.set_cons_succ]
    refine wpAnyU_take (i := 8) (v := ?_) (by decide) rfl (by kernel_rfl) (by kernel_rfl) (by kernel_rfl) (fun _ _ _ h => h) (Steady.plain (by kernel_rfl) ?_) ?_
    rotate_left
    · intro b W hS
      have ka := kept KA.out hS
      have kb := kept KB.out hS
      have x0 := kept X0.out hS
      have x1 := kept X1.out hS
      have x2 := kept X2.out hS
      have x3 := kept X3.out hS
      have x4 := kept X4.out hS
      have x5 := kept X5.out hS
      have x6 := kept X6.out hS
      have y0 := kept Y0.out hS
      have y1 := kept Y1.out hS
      have y2 := kept Y2.out hS
      have y3 := kept Y3.out hS
      have y4 := kept Y4.out hS
      have y5 := kept Y5.out hS
      have y6 := kept Y6.out hS
      go_simp
      first | done | with_reducible rfl
    simp only [Act.put, List.getElem_toArray, List.getElem_cons_succ, List.getElem_cons_zero, List.setIfInBounds_toArray, List.set_cons_zero, List.set_cons_succ]
    refine wpAnyU_take (i := 9) (v := ?_) (by decide) rfl (by kernel_rfl) (by kernel_rfl) (by kernel_rfl) (fun _ _ _ h => h) (Steady.plain (by kernel_rfl) ?_) ?_
    rotate_left
    · intro b W hS
      have ka := kept KA.out hS
      have kb := kept KB.out hS
      have x0 := kept X0.out hS
      have x1 := kept X1.out hS
      have x2 := kept X2.out hS
      have x3 := kept X3.out hS
      have x4 := kept X4.out hS
      have x5 := kept X5.out hS
      have x6 := kept X6.out hS
      have y0 := kept Y0.out hS
      have y1 := kept Y1.out hS
      have y2 := kept Y2.out hS
      have y3 := kept Y3.out hS
      have y4 := kept Y4.out hS
      have y5 := kept Y5.out hS
      have y6 := kept Y6.out hS
      go_simp
      first | done | with_reducible rfl
    simp only [Act.put, List.getElem_toArray, List.getElem_cons_succ, List.getElem_cons_zero, List.setIfInBounds_toArray, List.set_cons_zero, List.set_cons_succ]
    refine wpAnyU_take (i := 10) (v := .bool q) (by decide) rfl (by kernel_rfl) (by kernel_rfl) (by kernel_rfl) (fun _ _ _ h => h) (Steady.call (f := 68) (args := #[.agg (rowZ (.slice ax nx cx) xs), .agg (rowZ (.slice ay ny cy) ys)]) (by kernel_rfl) (fun _ => by kernel_rfl) ?_) ?_
    · intro b W hS
      refine (CR.out W hS).mono ?_
      rintro e w' ⟨he, hb⟩
      exact ⟨he, chainP hS hb⟩
    simp only [Act.put, List.getElem_toArray, List.getElem_cons_succ, List.getElem_cons_zero, List.setIfInBounds_toArray, List.set_cons_zero, List.set_cons_succ]
    refine wpAnyU_done (b := []) (by kernel_rfl) (by kernel_rfl) ?_ _
    intro w3 hS3
    have HB3 := hid (chainP HB2.out.1 hS3)
    clear hS3
    cases q
    all_goals
      simp only [if_true, if_false, Bool.false_eq_true] at HKQ
      go_wp2_with fail
      go_ret
      exact ⟨by rw [HKQ.out]; rfl, HB3.out⟩
  · have HX := hid hx
    clear hx
    go_wp2_with fail
    refine CG.out.mono ?_
    rintro e w2 ⟨hp2, hb2⟩
    have HB2 := hid (chainP HB1.out hb2)
    clear y2 hb2
    rcases hp2 with ⟨k, y, rfl, hk, hy⟩ | ⟨rfl, hy⟩
    rotate_left
    · have HY := hid (findS_no hy)
      clear hy
      go_wp2_with fail
      go_ret
      refine ⟨?_, HB2.out⟩
      unfold kindD
      rw [HY.out]
      rfl
    have HY := hid hy
    have hkn : decide ((k : Int) < 0) = false := decide_eq_false (by omega)
    have hkn' : ¬ (k : Int) < 0 := by omega
    clear hk hy
    go_wp2_with fail
    go_ret
    refine ⟨?_, HB2.out⟩
    have e1 := findS_no HX.out
    have e2 := findS_at HY.out
    have e3 := (findS_host e2).1
    unfold kindD
    rw [e2]
    simp only at e3 ⊢
    unfold kindP
    rw [e3, e1]
    rfl
set_option maxRecDepth 8000 in
set_option maxHeartbeats 4000000 in
theorem refPut_any (v : Value) (l : List (List UInt8)) (h : List UInt8) (w : World) (hr : Reads w v (l.map strV)) (hl : l.length ≤ 1000000) :
    Calls Tryz.prog 46 #[v, strV h] w fun e w' => ∃ v' n, e = .returned v' ∧ w'.ownsRow w.heap.size 9 1 v' n ((riseL l h).map strV) ∧ Below w.heap.size w w' := by
  obtain ⟨ao, c, e1⟩ := hr.form
  obtain ⟨n, hn⟩ : ∃ n, l.length = n := ⟨_, rfl⟩
  rw [List.length_map, hn] at e1
  subst e1
  have HR := hid hr
  have HN := hid hn
  rw [hn] at hl
  clear hr hn
  go_enter Tryz.func46, Tryz.ntmps46
  go_wp2_with fail
  go_loopw [5, 6, 7] (fun out dn z wr => ∃ (k : Nat) (O : List (List UInt8)) (q : Bool) (N : Nat), z = .int .i64 (k : Int) ∧ k ≤ n ∧ dn = .bool q ∧ wr.ownsRow w.heap.size 9 1 out N (O.map strV) ∧ O ++ (if q then l.drop k else riseL (l.drop k) h) = riseL l h ∧ Below w.heap.size w wr) (fun _ _ z _ => n - (intOf z).toNat)
  case atStart => exact ⟨0, [], false, 0, rfl, Nat.zero_le _, rfl, World.ownsRow_nil _ _ _ _, rfl, Below.refl _ _⟩
  case round =>
    obtain ⟨k, O, q, N, rfl, hk, rfl, ho, heq, hb⟩ := hrel
    have hNO : N = O.length := by have := ho.1; rw [List.length_map] at this; omega
    subst hNO
    have HEQ := hid heq
    have HB := hid hb
    have hOl : O.length ≤ 1000001 := by
      have h1 := congrArg List.length heq
      rw [List.length_append] at h1
      have h2 := riseL_len l h
      have := HN.out
      omega
    have hsz := hb.size
    by_cases hlt : k < n
    · obtain ⟨x, hx⟩ : ∃ x, l[k]? = some x := by
        have := HN.out
        exact ⟨l[k]'(by omega), List.getElem?_eq_getElem (by omega)⟩
      have hxm : (l.map strV)[k]? = some (strV x) := by rw [List.getElem?_map, hx]; rfl
      obtain ⟨a1, c1', e1, f1, hz1⟩ := HR.out
      injection e1 with e1 k1 k2
      clear k1 k2
      subst e1
      obtain ⟨b2, o2, g2, i0⟩ := f1 k _ hxm
      subst g2
      have D0 := hid i0
      have i2 := kept i0 hb
      clear i0
      have hkI : (k : Int) < (n : Int) := by omega
      have hk0 : (0 : Int) ≤ (k : Int) := by omega
      have hkw : IntKind.i64.wrap ((k : Int) + 1) = (k : Int) + 1 := IntWalk.i64_in _ (by omega)
      have hdk : l.drop k = x :: l.drop (k + 1) := by
        obtain ⟨h1, rfl⟩ := List.getElem?_eq_some_iff.1 hx
        exact List.drop_eq_getElem_cons h1
      have HDK := hid hdk
      clear hb f1 hx hxm hz1 heq hdk
      have NEXT : Hid (∀ (O' : List (List UInt8)) (q' : Bool), O' ++ (if q' then l.drop (k + 1) else riseL (l.drop (k + 1)) h) = riseL l h → O' ++ (if q' then l.drop (k + 1) else riseL (l.drop (k + 1)) h) = riseL l h) := fun _ _ h => h
      clear NEXT
      cases q
      · by_cases hlx : x < h
        · have zl : Op.bytesLess x h = true := by have := ltL_iff x h; unfold ltL at this; rw [this]; exact decide_eq_true hlx
          have HE := hid (show (O ++ [x]) ++ (if false = true then l.drop (k + 1) else riseL (l.drop (k + 1)) h) = riseL l h by
            have e := HEQ.out
            rw [HDK.out] at e
            simp only [Bool.false_eq_true, if_false] at e ⊢
            rw [riseL, if_pos hlx] at e
            rw [← e]; simp)
          clear hlx
          go_wp2_with (at_builtin; go_must (refine wpList_append_one _ rfl _ _ 62 rfl w.heap.size 9 Tryz.underlying62 infoStr rfl (by decide) rfl ho rfl (by first | rfl | simp) (by omega) hsz ?_); intro v3 w3 hown3 hg3 hb3)
          have HO3 := hid hown3
          have HB3 := hid (HB.out.trans hb3)
          clear hown3 hg3 hb3
          go_roundw
          case rel => exact ⟨k + 1, O ++ [x], false, O.length + 1, by go_num, hlt, rfl, by rw [List.map_append]; exact HO3.out, HE.out, HB3.out⟩
          case measure => simp [intOf]; omega
        · have zl : Op.bytesLess x h = false := by have := ltL_iff x h; unfold ltL at this; rw [this]; exact decide_eq_false hlx
          by_cases hxh : x = h
          · have zh : (x == h) = true := by simpa using hxh
            have HE := hid (show (O ++ [x]) ++ (if true = true then l.drop (k + 1) else riseL (l.drop (k + 1)) h) = riseL l h by
              have e := HEQ.out
              rw [HDK.out] at e
              simp only [Bool.false_eq_true, if_false, if_true] at e ⊢
              rw [riseL, if_neg hlx, if_pos hxh] at e
              rw [← e]; simp)
            clear hlx hxh
            go_wp2_with (at_builtin; go_must (refine wpList_append_one _ rfl _ _ 62 rfl w.heap.size 9 Tryz.underlying62 infoStr rfl (by decide) rfl ho rfl (by first | rfl | simp) (by omega) hsz ?_); intro v3 w3 hown3 hg3 hb3)
            have HO3 := hid hown3
            have HB3 := hid (HB.out.trans hb3)
            clear hown3 hg3 hb3
            go_roundw
            case rel => exact ⟨k + 1, O ++ [x], true, O.length + 1, by go_num, hlt, rfl, by rw [List.map_append]; exact HO3.out, HE.out, HB3.out⟩
            case measure => simp [intOf]; omega
          · have zh : (x == h) = false := by simpa using hxh
            have HE := hid (show ((O ++ [h]) ++ [x]) ++ (if true = true then l.drop (k + 1) else riseL (l.drop (k + 1)) h) = riseL l h by
              have e := HEQ.out
              rw [HDK.out] at e
              simp only [Bool.false_eq_true, if_false, if_true] at e ⊢
              rw [riseL, if_neg hlx, if_neg hxh] at e
              rw [← e]; simp)
            clear hlx hxh
            go_wp2_with (first
              | (at_builtin; refine wpList_append_one _ rfl _ _ 62 rfl w.heap.size 9 Tryz.underlying62 infoStr rfl (by decide) rfl ho rfl (by first | rfl | simp) (by omega) hsz ?_; intro v3 w3 hown3 hg3 hb3; have d3 := kept D0.out (HB.out.trans hb3); have hsz3 := (HB.out.trans hb3).size)
              | (at_builtin; refine wpList_append_one _ rfl _ _ 62 rfl w.heap.size 9 Tryz.underlying62 infoStr rfl (by decide) rfl hown3 rfl (by first | rfl | simp) (by omega) hsz3 ?_; intro v4 w4 hown4 hg4 hb4))
            have HO3 := hid hown4
            have HB3 := hid ((HB.out.trans hb3).trans hb4)
            clear hown3 hg3 hb3 hown4 hg4 hb4
            go_roundw
            case rel => exact ⟨k + 1, (O ++ [h]) ++ [x], true, O.length + 1 + 1, by go_num, hlt, rfl, by rw [List.map_append, List.map_append]; exact HO3.out, HE.out, HB3.out⟩
            case measure => simp [intOf]; omega
      · have HE := hid (show (O ++ [x]) ++ (if true = true then l.drop (k + 1) else riseL (l.drop (k + 1)) h) = riseL l h by
          have e := HEQ.out
          rw [HDK.out] at e
          simp only [if_true] at e ⊢
          rw [← e]; simp)
        go_wp2_with (at_builtin; go_must (refine wpList_append_one _ rfl _ _ 62 rfl w.heap.size 9 Tryz.underlying62 infoStr rfl (by decide) rfl ho rfl (by first | rfl | simp) (by omega) hsz ?_); intro v3 w3 hown3 hg3 hb3)
        have HO3 := hid hown3
        have HB3 := hid (HB.out.trans hb3)
        clear hown3 hg3 hb3
        go_roundw
        case rel => exact ⟨k + 1, O ++ [x], true, O.length + 1, by go_num, hlt, rfl, by rw [List.map_append]; exact HO3.out, HE.out, HB3.out⟩
        case measure => simp [intOf]; omega
    · have hkn : k = n := by omega
      have e0 : l.drop k = [] := List.drop_eq_nil_of_le (by have := HN.out; omega)
      rw [e0] at heq
      clear hb HEQ
      cases q
      · simp only [Bool.false_eq_true, if_false] at heq
        have HE := hid (show O ++ [h] = riseL l h from heq)
        clear heq e0
        go_wp2_with (at_builtin; go_must (refine wpList_append_one _ rfl _ _ 62 rfl w.heap.size 9 Tryz.underlying62 infoStr rfl (by decide) rfl ho rfl (by first | rfl | simp) (by omega) hsz ?_); intro v3 w3 hown3 hg3 hb3)
        have HO3 := hid hown3
        have HB3 := hid (HB.out.trans hb3)
        clear hown3 hg3 hb3
        go_ret
        exact ⟨_, _, rfl, by rw [← HE.out, List.map_append]; exact HO3.out, HB3.out⟩
      · simp only [if_true, List.append_nil] at heq
        have HE := hid heq
        have HO := hid ho
        clear heq e0 ho
        go_wp2_with fail
        go_ret
        exact ⟨_, _, rfl, by rw [← HE.out]; exact HO.out, HB.out⟩
end Go.Proofs.YtenijpcjemdhfaaGreatDoor
