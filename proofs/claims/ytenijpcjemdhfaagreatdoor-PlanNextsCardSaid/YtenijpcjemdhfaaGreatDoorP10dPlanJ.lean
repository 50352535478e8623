/-
  Contracts of package plan: a table's Next.
-/
import Derived.Test.YtenijpcjemdhfaaGreatDoorP10d08
import Derived.Test.YtenijpcjemdhfaaGreatDoorP10d07
import Derived.Deep.CutRange

namespace Go.Pantry
open Go.RowKit
theorem wpList_append_gen {P : Program} {ops : Array Oper} {rest : List Oper} (w : World) {o : Oper} {a : Act} {Q : Exit → Act → World → Prop} (hgd : o.guard = none) (s x : Operand) (t : TypeId)
    (ho : o.op = .call { callee := .builtin .append, args := #[s, x], argTypes := #[t, t] })
    (B : Nat) (e : TypeId) {z : Value} {sz bytes : Nat} (ht : P.underlying t = some (.slice e)) (hi : (P.info? e).map (fun i => (i.zero, i.size, i.bytes)) = some (some z, sz, bytes)) (hzs : z.cells.size = sz) (hsz : 0 < sz) (hby : bytes ≤ 4096)
    {v : Value} {n : Nat} {xs : List Value} (hs : a.eval s = v) (hown : w.ownsRow B e sz v n xs)
    (ad : Addr) (m c : Nat) (news : List Value) (hl : news.length = m * sz) (hnews : ∀ (j : Nat) u, news[j]? = some u → w.cell? (ad.add j) = some u) (h1 : ∀ u ∈ news, u.oneCell' = true)
    (hx : a.eval x = .slice (some ad) m c) (hn : n + m < 4294967296) (hB : B ≤ w.heap.size)
    (h : ∀ v' w', w'.ownsRow B e sz v' (n + m) (xs ++ news) → w.grownBy w' v.ownBlock → In (fun k => v.ownBlock = some k ∨ w.heap.size ≤ k) v' → wpList P ops Q rest (a.put o.dst v') w') :
    wpList P ops Q (o :: rest) a w :=
  wpList_plain hgd fun _ hK => wp_append_gen w s x t ho B e ht hi hzs hsz hby hs hown ad m c news hl hnews h1 hx hn hB (fun v' w' a1 a2 a3 => hK _ _ (h v' w' a1 a2 a3))
theorem OwnAt.mono {w : World} {e : TypeId} {size : Nat} {ts : TypeId} {B B' : Nat} {sv : Value} {n : Nat} {xs : List Value} {hs : List (Value × List (List UInt8))} (h : OwnAt w e size ts B sv n xs hs) (hB : B' ≤ B) : OwnAt w e size ts B' sv n xs hs :=
  ⟨h.own, h.heads, fun x hx k hk => ⟨Nat.lt_of_le_of_lt hB (h.apart x hx k hk).1, (h.apart x hx k hk).2⟩, fun k hk => Nat.lt_of_le_of_lt hB (h.inn k hk)⟩
theorem since_keep {g : Int} {L : List RuleZ} {s : SiteZ} (h : kindP (L.map (·.1)) s = 0) : ∃ x, L.find? (fun x => x.1.host == s.host) = some x ∧ sinceN g (tT L) s = x.2.2 := by
  have h0 : kindP ((tT L).map (·.1)) s = 0 := by rw [tT_map]; exact h
  cases e : L.find? (fun x => x.1.host == s.host) with
  | none =>
    exfalso
    unfold kindP at h0
    rw [findT_map, tT_find, e] at h0
    cases h0
  | some x =>
    refine ⟨x, rfl, ?_⟩
    rw [sinceN_kind, if_pos h0, tT_find, e]
    rfl
theorem since_new {g : Int} {L : List RuleZ} {s : SiteZ} (h : ¬ kindP (L.map (·.1)) s = 0) : sinceN g (tT L) s = g := by
  rw [sinceN_kind, tT_map, if_neg h]
def hsR (L : List RuleZ) : List (Value × List (List UInt8)) := L.map fun x => (x.2.1, x.1.heads)
theorem actF_site {A C : List SiteZ} {s : SiteZ} (hn : (C.map (·.host)).Nodup) (h : s ∈ C) : actF A C s.host = some (kindP A s) := by
  unfold actF
  rw [findS_some hn h]
theorem nextL_at {g : Int} {T : List (SiteZ × Int)} {C : List SiteZ} {k : Nat} {s : SiteZ} (h : C[k]? = some s) : (nextL g T C).take (k + 1) = (nextL g T C).take k ++ [(s, sinceN (g + 1) T s)] := by
  rw [List.take_add_one]
  unfold nextL
  rw [List.getElem?_map, h]
  rfl
theorem nextL_len (g : Int) (T : List (SiteZ × Int)) (C : List SiteZ) : (nextL g T C).length = C.length := by simp [nextL]
end Go.Pantry
namespace Go.Proofs.YtenijpcjemdhfaaGreatDoor
open Go.RowKit Go.Pantry

abbrev zeroTab : Array Value := #[.int .i64 0, .slice none 0 0]
theorem infoTable : (Tryz.prog.info? 52).map (·.size) = some 2 := by kernel_rfl
theorem oneTab (g : Int) (ao : Option Addr) (n c : Nat) : (#[.int .i64 g, .slice ao n c] : Array Value).all (·.oneCell') = true := by simp [Value.oneCell']
theorem infoRuleA : (Tryz.prog.info? 66).map (fun i => (i.zero, i.size, i.bytes)) = some (some (.agg zeroRule), 8, 80) := by kernel_rfl
theorem fieldAct (z : Int) (h : List UInt8) (W : World) : (Instr.field 48 (.agg #[.int .i64 z, strV h]) 0).run Tryz.prog W = .ok (.int .i64 z) W := by kernel_rfl
theorem acts_ne {w : World} {b n g : Nat} {f : List UInt8 → Option Nat} {cs : Array Value} {t : TypeId} (h : ActsAt w b n f) (hg : rowIs w g cs t) : ¬ b = g := by
  rintro rfl
  obtain ⟨D, ⟨es, clock, a1, _⟩, _⟩ := h
  rw [show w.heap[b]? = some (.cells cs t (0, 0)) from hg] at a1
  cases a1
theorem rowRz_one {ao : Option Addr} {n c : Nat} {s : SiteZ} {z : Int} : ∀ u ∈ (rowRz (s, .slice ao n c, z)).toList, u.oneCell' = true := by
  intro u hu
  have := oneRule s.host s.origin s.min s.max s.query s.keep ao n c z
  rw [Array.all_eq_true'] at this
  exact this u (by simpa using hu)
/-- rules of the program's own -/
abbrev RulesOwn (w : World) (D : Nat) (sv : Value) (L : List RuleZ) : Prop := OwnAt w 66 8 9 D sv L.length (rowsR L) (hsR L)
theorem RulesOwn.readsR {w : World} {D : Nat} {sv : Value} {L : List RuleZ} (h : RulesOwn w D sv L) : ReadsR w sv L ∧ ∀ x ∈ L, Room x.2.1 := by
  have hm : ∀ x ∈ L, w.ownsRow 0 9 1 x.2.1 x.1.heads.length (x.1.heads.map strV) := fun x hx => h.heads (x.2.1, x.1.heads) (List.mem_map.2 ⟨x, hx, rfl⟩)
  exact ⟨readsR_own h.own (fun x hx => (hm x hx).reads), fun x hx => room_ofOwn (hm x hx)⟩
/-- the next table and the actions, or none -/
def NextPost (w : World) (g : Int) (L : List RuleZ) (C : List SiteZ) (e : Ending) (w' : World) : Prop :=
  (if rightT g (tT L) && rightC C && !(g == 253402300799) then ∃ v L' va, e = .returned (.tuple #[.agg #[.int .i64 (g + 1), v], va, .int .i64 0]) ∧ tT L' = nextL g (tT L) C ∧ RulesOwn w' w.heap.size v L' ∧ w'.ownsRow w.heap.size 48 2 va (actsP (L.map (·.1)) C).length (actCells (actsP (L.map (·.1)) C))
    else e = .returned (.tuple #[.agg zeroTab, .slice none 0 0, .int .i64 10])) ∧ Below w.heap.size w w'
set_option maxRecDepth 100000 in
set_option maxHeartbeats 8000000 in
theorem next_any (g : Int) (v vc : Value) (L : List RuleZ) (LC : List (SiteZ × Value)) (w : World) (h : ReadsR w v L) (hf : FewR L) (hC : ReadsP w vc LC) (fC : Few LC) (hm : MaxOk w) (ht : Tab10 w) :
    Calls Tryz.prog 23 #[.agg #[.int .i64 g, v], .agg #[vc]] w (NextPost w g L (LC.map (·.1))) := by
  obtain ⟨ao, cap, e1, f1⟩ := h.form
  obtain ⟨bo, d, e2, f2⟩ := hC.form
  obtain ⟨n, hln⟩ : ∃ n, L.length = n := ⟨_, rfl⟩
  obtain ⟨m, hlm⟩ : ∃ n, LC.length = n := ⟨_, rfl⟩
  rw [hln] at e1
  rw [hlm] at e2
  subst e1 e2
  have hmb : m ≤ 1000000 := by rw [← hlm]; exact fC.len
  obtain ⟨W, hW⟩ : ∃ W, ((w.alloc (.cells #[.int .i64 g, .slice ao n cap] 52)).alloc (.cells #[.slice bo m d] 25)).alloc (.cells zeroTab 52) = W := ⟨_, rfl⟩
  have hb : Below w.heap.size w W := by rw [← hW]; exact chainP (chainP (below_alloc _ _) (below_alloc _ _)) (below_alloc _ _)
  have q0 : rowIs W w.heap.size #[.int .i64 g, .slice ao n cap] 52 := by rw [← hW]; exact ((rowIs_new _ _ _).below (below_alloc _ _)).below (below_alloc _ _)
  have q1 : rowIs W (w.heap.size + 1) #[.slice bo m d] 25 := by rw [← hW]; exact (rowIs_new_at _ _ _ _ (by simp)).below (below_alloc _ _)
  have q2 : rowIs W (w.heap.size + 1 + 1) zeroTab 52 := by rw [← hW]; exact rowIs_new_at _ _ _ _ (by simp)
  have HQ := hid (And.intro q0 (And.intro q1 (And.intro q2 hb)))
  have HLN := hid (And.intro hln hlm)
  have HF := hid (And.intro hf (And.intro h (And.intro hm ht)))
  have HC0 := hid (And.intro hC fC)
  have cr := tableRight_any g (.slice ao n cap) L W (h.below hb) hf (hm.below hb) (ht.below hb)
  obtain ⟨qt, hqt⟩ : ∃ q, rightT g (tT L) = q := ⟨_, rfl⟩
  obtain ⟨qc, hqc⟩ : ∃ q, rightC (LC.map (·.1)) = q := ⟨_, rfl⟩
  rw [hqt] at cr
  have HQT := hid (And.intro hqt hqc)
  have CR := hid cr
  clear h hf hC fC f1 f2 hln hlm hb hm ht cr hqt hqc q1 q2
  go_enter Tryz.func23, Tryz.ntmps23
  go_wp2_with (refine wpList_load_row rfl 52 _ rfl w.heap.size rfl 52 _ (0, 0) _ q0 Tryz.underlying52 rfl infoTable ?_)
  refine CR.out.mono ?_
  rintro e w1 ⟨rfl, hb1⟩
  have HB1 := hid (chainP HQ.out.2.2.2 hb1)
  have HBW := hid hb1
  clear q0 hW hb1
  have q2 : rowIs w1 (w.heap.size + 1 + 1) zeroTab 52 := HQ.out.2.2.1.below HBW.out
  cases qt
  · go_wp2_with (refine wpList_store_row rfl 52 _ _ rfl (w.heap.size + 1 + 1) _ rfl rfl 52 _ q2 infoTable rfl (oneTab 0 none 0 0) ?_)
    refine bodyPost_ret (results_row3 Tryz.results23 _ _ (w.heap.size + 1 + 1) _ rfl (q2.setRow zeroTab) Tryz.underlying52 rfl infoTable) rfl ?_
    refine ⟨?_, below_setRow HB1.out (by omega) _⟩
    rw [HQT.out.1]; rfl
  have y1 : w1.cell? ⟨w.heap.size + 1, 0, none⟩ = some (.slice bo m d) := (HQ.out.2.1.below HBW.out).cell 0
  have cc := configRight_any (.slice bo m d) LC w1 (HC0.out.1.below HB1.out) HC0.out.2 (HF.out.2.2.1.below HB1.out) (HF.out.2.2.2.below HB1.out)
  rw [HQT.out.2] at cc
  have CC := hid cc
  clear cc q2
  go_wp2_with fail
  refine CC.out.mono ?_
  rintro e w2 ⟨rfl, hb2⟩
  have HB2 := hid (chainP HB1.out hb2)
  have HBW2 := hid (chainP HBW.out hb2)
  clear y1 hb2
  have q2 : rowIs w2 (w.heap.size + 1 + 1) zeroTab 52 := HQ.out.2.2.1.below HBW2.out
  cases qc
  · go_wp2_with (refine wpList_store_row rfl 52 _ _ rfl (w.heap.size + 1 + 1) _ rfl rfl 52 _ q2 infoTable rfl (oneTab 0 none 0 0) ?_)
    refine bodyPost_ret (results_row3 Tryz.results23 _ _ (w.heap.size + 1 + 1) _ rfl (q2.setRow zeroTab) Tryz.underlying52 rfl infoTable) rfl ?_
    refine ⟨?_, below_setRow HB2.out (by omega) _⟩
    rw [HQT.out.1, HQT.out.2]; rfl
  have y0 : w2.cell? ⟨w.heap.size, 0, none⟩ = some (.int .i64 g) := (HQ.out.1.below HBW2.out).cell 0
  by_cases hg : g = 253402300799
  · have HG := hid hg
    have hgb : (g == 253402300799) = true := by simp [hg]
    clear hg
    go_wp2_with (refine wpList_store_row rfl 52 _ _ rfl (w.heap.size + 1 + 1) _ rfl rfl 52 _ q2 infoTable rfl (oneTab 0 none 0 0) ?_)
    refine bodyPost_ret (results_row3 Tryz.results23 _ _ (w.heap.size + 1 + 1) _ rfl (q2.setRow zeroTab) Tryz.underlying52 rfl infoTable) rfl ?_
    refine ⟨?_, below_setRow HB2.out (by omega) _⟩
    rw [HQT.out.1, HQT.out.2, hgb]; rfl
  have hgr := (rightT_iff.1 HQT.out.1).1
  have HG := hid (And.intro hgr hg)
  have hgb : (g == 253402300799) = false := by simp [hg]
  have HGB := hid hgb
  have hgw : IntKind.i64.wrap (g + 1) = g + 1 := IntWalk.i64_in _ (by omega)
  clear hg hgr q2
  go_wp2_with fail
  change Code.wp _ _ _ _ (w2.alloc (.cells #[.int .i64 (g + 1), .slice none 0 0] 52))
  obtain ⟨V, hV⟩ : ∃ V, w2.alloc (.cells #[.int .i64 (g + 1), .slice none 0 0] 52) = V := ⟨_, rfl⟩
  obtain ⟨B, hB⟩ : ∃ B, w2.heap.size = B := ⟨_, rfl⟩
  have hbV : Below w2.heap.size w2 V := by rw [← hV]; exact below_alloc _ _
  have HRB : Hid (rowIs V B #[.int .i64 (g + 1), .slice none 0 0] 52) := by rw [← hV, ← hB]; exact rowIs_new _ _ _
  rw [hV, hB]
  have HV := hid (And.intro (chainP HB2.out hbV) (And.intro (chainP HBW2.out hbV) (show w.heap.size + 2 < B by have := (HQ.out.2.2.1.below HBW2.out).lt; omega)))
  have Q0 : Hid (∀ W', Below V.heap.size V W' → rowIs W' w.heap.size #[.int .i64 g, .slice ao n cap] 52) := fun W' hS => HQ.out.1.below (chainP HV.out.2.1 hS)
  have Q1 : Hid (∀ W', Below V.heap.size V W' → rowIs W' (w.heap.size + 1) #[.slice bo m d] 25) := fun W' hS => HQ.out.2.1.below (chainP HV.out.2.1 hS)
  have HC := hid (And.intro HC0.out.1 (And.intro HC0.out.2 (nodup_right HQT.out.2)))
  have CT : Hid (∀ W', Below V.heap.size V W' → Calls Tryz.prog 26 #[.agg #[.int .i64 g, .slice ao n cap]] W' fun e w' => ∃ v' L', e = .returned (.agg #[v']) ∧ L'.map (·.1) = L.map (·.1) ∧ ReadsP w' v' L' ∧ (∀ x ∈ L', Room x.2) ∧ Below W'.heap.size W' w') := fun W' hS =>
    tableConfig_any g (.slice ao n cap) L W' (HF.out.2.1.below (chainP HV.out.1 hS)) HF.out.1.len HF.out.1.heads
  clear y0 hgb hgw hbV hV hB
  refine wp_region_held_drew (S := fun w' => Below V.heap.size V w') (by kernel_rfl) ((Below.refl _ _).drew) (fun hH => ?_)
  refine wpAnyH_take (i := 0) (v := .agg #[.int .i64 g, .slice ao n cap]) rfl (by kernel_rfl) (by kernel_rfl) (by kernel_rfl) (fun _ _ _ h => h) (Or.inl ⟨by kernel_rfl, ?_⟩) hH ?_
  · intro W hS
    exact load_gives rfl _ rfl (Q0.out W hS) Tryz.underlying52 rfl infoTable
  simp only [Act.put, List.getElem_toArray, List.getElem_cons_succ, List.getElem_cons_zero, List.setIfInBounds_toArray, List.set_cons_zero, List.set_cons_succ]
  refine wpAnyH_take (i := 2) (v := .agg #[.slice bo m d]) rfl (by kernel_rfl) (by kernel_rfl) (by kernel_rfl) (fun _ _ _ h => h) (Or.inl ⟨by kernel_rfl, ?_⟩) hH ?_
  · intro W hS
    exact load_gives rfl _ rfl (Q1.out W hS) Tryz.underlying25 rfl infoCfg
  simp only [Act.put, List.getElem_toArray, List.getElem_cons_succ, List.getElem_cons_zero, List.setIfInBounds_toArray, List.set_cons_zero, List.set_cons_succ]
  refine wpAnyH_ready (rs := [1]) (by kernel_rfl) (by simp) ?_
  refine AllReadyH.cons rfl (fun K hK => ?_) AllReadyH.nil
  go_simp
  refine (CT.out _ hH).mono ?_
  rintro e w5 ⟨v5, L5, rfl, he5, hr5, hro5, hb5⟩
  have HL5 := hid (And.intro he5 (And.intro hr5 (And.intro hro5 hb5)))
  obtain ⟨a5, d5, hf5, -⟩ := hr5.form
  obtain ⟨n5, hn5⟩ : ∃ n, L5.length = n := ⟨_, rfl⟩
  rw [hn5] at hf5
  subst hf5
  clear he5 hr5 hro5 hn5
  refine hK.out _ _ (chainP hH hb5) (fun hH => ?_)
  clear hb5
  clear hK K
  try simp only [Act.put, List.getElem_toArray, List.getElem_cons_succ, List.getElem_cons_zero, List.setIfInBounds_toArray, List.set_cons_zero, List.set_cons_succ]
  refine wpAnyH_ready (rs := [3]) (by kernel_rfl) (by simp) ?_
  refine AllReadyH.cons rfl (fun K hK => ?_) AllReadyH.nil
  go_simp
  refine (actions_any (.slice a5 n5 d5) (.slice bo m d) L5 LC _ HL5.out.2.1 (HC.out.1.below (chainP HV.out.1 hH)) (few_same HF.out.1 HL5.out.1 HL5.out.2.2.1) HC.out.2.1 HC.out.2.2).mono ?_
  rintro e w6 ⟨b6, rfl, hact6, hb6⟩
  have HACT0 := hid hact6
  refine hK.out _ _ (chainP hH hb6) (fun hH => ?_)
  clear hK K
  try simp only [Act.put, List.getElem_toArray, List.getElem_cons_succ, List.getElem_cons_zero, List.setIfInBounds_toArray, List.set_cons_zero, List.set_cons_succ]
  refine wpAnyH_take (i := 4) (v := ?_) rfl (by kernel_rfl) (by kernel_rfl) (by kernel_rfl) (fun _ _ _ h => h) (Or.inl ⟨by kernel_rfl, ?_⟩) hH ?_
  rotate_left
  · intro W hS
    go_simp
    first | done | with_reducible rfl
  simp only [Act.put, List.getElem_toArray, List.getElem_cons_succ, List.getElem_cons_zero, List.setIfInBounds_toArray, List.set_cons_zero, List.set_cons_succ]
  refine wpAnyH_done (by kernel_rfl) ?_ _
  have e5 : L5.map (·.1) = L.map (·.1) := HL5.out.1
  have hn6 : L5.length + LC.length ≤ 2000000 := by
    have h1 := congrArg List.length e5
    rw [List.length_map, List.length_map] at h1
    have := HF.out.1.len
    have := HC0.out.2.len
    omega
  obtain ⟨N6, hN6⟩ : ∃ N, L5.length + LC.length = N := ⟨_, rfl⟩
  rw [hN6] at hn6
  have HA6 : Hid (ActsAt w6 b6 N6 (actF (L.map (·.1)) (LC.map (·.1))) ∧ N6 ≤ 2000000) := ⟨by rw [← e5, ← hN6]; exact HACT0.out, hn6⟩
  have HV6 := hid hH
  have HB6 := hid (chainP HV.out.1 hH)
  have R6 := hid (And.intro (Q0.out _ hH) (And.intro (Q1.out _ hH) (And.intro (HRB.out.below hH) (HQ.out.2.2.1.below (chainP HV.out.2.1 hH)))))
  have y1 : w6.cell? ⟨w.heap.size + 1, 0, none⟩ = some (.slice bo m d) := R6.out.2.1.cell 0
  have HAB := hid (acts_ne HA6.out.1 R6.out.2.2.1)
  clear e5 hn6 hN6 hact6 hb6 hH HACT0 HL5 CT
  go_wp2_with fail
  clear y1
  obtain ⟨D, hD⟩ : ∃ D, D + 1 = w6.heap.size := ⟨w6.heap.size - 1, by have := R6.out.2.2.1.lt; omega⟩
  have HD := hid (show B ≤ D ∧ b6 ≤ D ∧ D + 1 = w6.heap.size ∧ w.heap.size + 2 < B ∧ w.heap.size ≤ D from ⟨by have := R6.out.2.2.1.lt; omega, by have := HA6.out.1.lt; omega, hD, HV.out.2.2, by have := R6.out.2.2.1.lt; have := HV.out.2.2; omega⟩)
  clear hD
  go_loopw [39] (fun z wr => ∃ (k : Nat) (sv : Value) (T : List RuleZ), z = .int .i64 (k : Int) ∧ k ≤ m ∧ tT T = (nextL g (tT L) (LC.map (·.1))).take k ∧ rowIs wr B #[.int .i64 (g + 1), sv] 52 ∧ RulesOwn wr D sv T ∧ Kept (fun j => j = B) w6 wr) (fun z _ => m - (intOf z).toNat)
  case atStart => exact ⟨0, _, [], rfl, Nat.zero_le _, rfl, R6.out.2.2.1, OwnAt.nil _ _ _ _ _, Kept.refl _ _⟩
  case round =>
    obtain ⟨k, sv, T, rfl, hk, he, hrb, hz, hkp⟩ := hrel
    have HE := hid he
    obtain ⟨aos, cs, hfs⟩ := ownsRow_formN hz.own
    obtain ⟨ns, hns⟩ : ∃ ns, T.length = ns := ⟨_, rfl⟩
    have HNK := hid (show ns = k by
      have h1 := congrArg List.length he
      have h2 := HLN.out.2
      rw [tT_len, List.length_take, nextL_len, List.length_map] at h1
      omega)
    rw [hns] at hfs
    subst hfs
    have HNS := hid hns
    have HR := hid (And.intro hrb (And.intro hz hkp))
    have hbr : Below w.heap.size w wr := ((Kept.of_below (X := fun _ => False) HB6.out).trans (Y := fun j => j = B) (hkp.mono (fun k h _ => h)) (fun k h hk => by have := HD.out; omega)).below (fun k h _ => h.elim) (Nat.le_refl _)
    have HBR := hid hbr
    have KR0 := hid (R6.out.1.kept hkp (by have := HD.out; omega))
    have KR1 := hid (R6.out.2.1.kept hkp (by have := HD.out; omega))
    have KR2 := hid (R6.out.2.2.2.kept hkp (by have := HD.out; omega))
    have KA := hid (HA6.out.1.kept hkp HAB.out)
    by_cases hlt : k < m
    · obtain ⟨⟨s, hv⟩, hx⟩ : ∃ x, LC[k]? = some x := by
        have := HLN.out
        exact ⟨LC[k]'(by omega), List.getElem?_eq_getElem (by omega)⟩
      have hmem := List.mem_of_getElem? hx
      have hrd := (HC.out.1.heads _ hmem).below hbr
      obtain ⟨aox, cx, hfv⟩ := hrd.form
      simp only at hfv hrd
      obtain ⟨nx, hnx⟩ : ∃ nh, (s.heads.map strV).length = nh := ⟨_, rfl⟩
      rw [hnx] at hfv
      subst hfv
      obtain ⟨b1, o1, g1, i1⟩ := (HC.out.1.below hbr).at_ hx
      subst g1
      have hkI : (k : Int) < (m : Int) := by omega
      have hk0 : (0 : Int) ≤ (k : Int) := by omega
      have hkw : IntKind.i64.wrap ((k : Int) + 1) = (k : Int) + 1 := IntWalk.i64_in _ (by omega)
      obtain ⟨p1, hp1⟩ : ∃ p, o1 + k * 7 = p := ⟨_, rfl⟩
      rw [hp1] at i1
      have y0 := i1 0 _ rfl
      have y1 := i1 1 _ rfl
      have y2 := i1 2 _ rfl
      have y3 := i1 3 _ rfl
      have y4 := i1 4 _ rfl
      have y5 := i1 5 _ rfl
      have y6 := i1 6 _ rfl
      rw [Nat.add_zero] at y0
      have hx2 : (LC.map (·.1))[k]? = some s := by rw [List.getElem?_map, hx]; rfl
      have HX := hid (And.intro hx2 hmem)
      have HXL := hid (HC.out.2.1.heads _ hmem)
      have HXH := hid (HC.out.2.1.host _ hmem)
      clear he hrb hz hkp hbr hx hx2 hmem hnx i1 hns
      go_wp2_with fail
      change Code.wp _ _ _ _ (wr.alloc (.cells (rowZ (.slice aox nx cx) s) 64))
      obtain ⟨wx, hWX⟩ : ∃ W, wr.alloc (.cells (rowZ (.slice aox nx cx) s) 64) = W := ⟨_, rfl⟩
      have hbx : Below wr.heap.size wr wx := by rw [← hWX]; exact below_alloc _ _
      have hrx : rowIs wx wr.heap.size (rowZ (.slice aox nx cx) s) 64 := by rw [← hWX]; exact rowIs_new _ _ _
      rw [hWX]
      have HBX := hid hbx
      have HXR := hid (hrd.below hbx)
      have RX : Hid (∀ W', Below wx.heap.size wx W' → rowIs W' wr.heap.size (rowZ (.slice aox nx cx) s) 64) := fun W' hS => hrx.below hS
      have QB : Hid (∀ W', Below wx.heap.size wx W' → W'.cell? ⟨B, 0, none⟩ = some (.int .i64 (g + 1))) := fun W' hS => (HR.out.1.below (chainP hbx hS)).cell 0
      clear y0 y1 y2 y3 y4 y5 y6 hWX hbx hrx hrd
      go_cut [11] from 43 to 47 (fun u W' => ∃ (p : Nat) (v' : Value), u = .pointer (some ⟨p, 0, none⟩) ∧ rowIs W' p (rowRz (s, v', g + 1)) 66 ∧ W'.ownsRow wx.heap.size 9 1 v' s.heads.length (s.heads.map strV) ∧ Below wx.heap.size wx W' ∧ wx.heap.size ≤ p ∧ ¬ v'.ownBlock = some p)
      case first =>
        refine wp_region_held_drew (S := fun w' => Below wx.heap.size wx w') (by kernel_rfl) ((Below.refl _ _).drew) (fun hH => ?_)
        generalize wx.drew = w0 at hH ⊢
        refine wpAnyH_take (i := 0) (v := .agg (rowZ (.slice aox nx cx) s)) rfl (by kernel_rfl) (by kernel_rfl) (by kernel_rfl) (fun _ _ _ h => h) (Or.inl ⟨by kernel_rfl, ?_⟩) hH ?_
        · intro W hS
          exact load_gives rfl _ rfl (RX.out W hS) Tryz.underlying64 rfl infoSite
        simp only [Act.put, List.getElem_toArray, List.getElem_cons_succ, List.getElem_cons_zero, List.setIfInBounds_toArray, List.set_cons_zero, List.set_cons_succ]
        refine wpAnyH_take (i := 2) (v := ?_) rfl (by kernel_rfl) (by kernel_rfl) (by kernel_rfl) (fun _ _ _ h => h) (Or.inl ⟨by kernel_rfl, ?_⟩) hH ?_
        rotate_left
        · intro W hS
          have q0 := QB.out W hS
          go_simp
          first | done | with_reducible rfl
        simp only [Act.put, List.getElem_toArray, List.getElem_cons_succ, List.getElem_cons_zero, List.setIfInBounds_toArray, List.set_cons_zero, List.set_cons_succ]
        refine wpAnyH_take (i := 3) (v := ?_) rfl (by kernel_rfl) (by kernel_rfl) (by kernel_rfl) (fun _ _ _ h => h) (Or.inl ⟨by kernel_rfl, ?_⟩) hH ?_
        rotate_left
        · intro W hS
          have q0 := QB.out W hS
          go_simp
          first | done | with_reducible rfl
        simp only [Act.put, List.getElem_toArray, List.getElem_cons_succ, List.getElem_cons_zero, List.setIfInBounds_toArray, List.set_cons_zero, List.set_cons_succ]
        refine wpAnyH_ready (rs := [1, 5]) (by kernel_rfl) (by simp) ?_
        refine AllReadyH.cons rfl (fun K hK => ?_) (AllReadyH.cons rfl (fun K hK => ?_) AllReadyH.nil)
        · go_simp
          refine (own_any (.slice aox nx cx) s _ (HXR.out.below hH) HXL.out).mono ?_
          rintro e w3 ⟨v3, rfl, hown3, hb3⟩
          obtain ⟨a4, n4, c4, rfl⟩ : ∃ a n c, v3 = .slice a n c := by obtain ⟨a, c, e⟩ := ownsRow_formN hown3; exact ⟨a, _, c, e⟩
          have HO3 := hid hown3
          have HS3 := hid (And.intro hH.size hb3.size)
          refine hK.out _ _ (chainP hH hb3) (fun hH => ?_)
          clear hK K
          try simp only [Act.put, List.getElem_toArray, List.getElem_cons_succ, List.getElem_cons_zero, List.setIfInBounds_toArray, List.set_cons_zero, List.set_cons_succ]
          refine wpAnyH_take (i := 4) (v := ?_) rfl (by kernel_rfl) (by kernel_rfl) (by kernel_rfl) (fun _ _ _ h => h) (Or.inl ⟨by kernel_rfl, ?_⟩) hH ?_
          rotate_left
          · intro W hS
            go_simp
            first | done | with_reducible rfl
          simp only [Act.put, List.getElem_toArray, List.getElem_cons_succ, List.getElem_cons_zero, List.setIfInBounds_toArray, List.set_cons_zero, List.set_cons_succ]
          refine wpAnyH_ready (rs := [5]) (by kernel_rfl) (by simp) ?_
          refine AllReadyH.cons rfl (fun K hK => ?_) AllReadyH.nil
          obtain ⟨w4, hWw4⟩ : ∃ W, W = w3.alloc (.cells zeroRule 66) := ⟨_, rfl⟩
          have hbw4 : Below w3.heap.size w3 w4 := by rw [hWw4]; exact below_alloc _ _
          have HPw4 : Hid (rowIs w4 w3.heap.size zeroRule 66) := by rw [hWw4]; exact rowIs_new _ _ _
          go_simp
          rw [← hWw4]
          clear hWw4
          refine hK.out _ _ (chainP hH hbw4) (fun hH => ?_)
          clear hK K
          try simp only [Act.put, List.getElem_toArray, List.getElem_cons_succ, List.getElem_cons_zero, List.setIfInBounds_toArray, List.set_cons_zero, List.set_cons_succ]
          have hsz3 : wx.heap.size ≤ w3.heap.size := Nat.le_trans HS3.out.1 HS3.out.2
          refine wpAnyH_ready (rs := [6]) (by kernel_rfl) (by simp) ?_
          refine AllReadyH.cons rfl (fun K hK => ?_) AllReadyH.nil
          rw [if_pos (by kernel_rfl)]
          refine wp_store_row 66 _ _ rfl w3.heap.size (rowRz (s, .slice a4 n4 c4, g + 1)) rfl rfl 66 zeroRule HPw4.out infoRule rfl (oneRule _ _ _ _ _ _ _ _ _ _) ?_
          refine hK.out _ _ (below_setRow hH (by omega) _) (fun hH => ?_)
          clear hK K
          try simp only [Act.put, List.getElem_toArray, List.getElem_cons_succ, List.getElem_cons_zero, List.setIfInBounds_toArray, List.set_cons_zero, List.set_cons_succ]
          refine wpAnyH_done (by kernel_rfl) ?_ _
          go_wp2_with fail
          go_meet
          case rel => exact ⟨w3.heap.size, .slice a4 n4 c4, rfl, HPw4.out.setRow _, (ownsRow_kept (HO3.out.below hbw4) ((Kept.refl (fun k => k = w3.heap.size) w4).setRow (g := w3.heap.size) (.inl rfl) _) (fun k hk e => by have := (HO3.out.lt k hk).2; omega)).base HS3.out.1, hH, hsz3, fun e => by have := (HO3.out.lt _ e).2; omega⟩
        · have HS0 := hid hH.size
          obtain ⟨w3, hWw3⟩ : ∃ W, W = w0.alloc (.cells zeroRule 66) := ⟨_, rfl⟩
          have hbw3 : Below w0.heap.size w0 w3 := by rw [hWw3]; exact below_alloc _ _
          have HPw3 : Hid (rowIs w3 w0.heap.size zeroRule 66) := by rw [hWw3]; exact rowIs_new _ _ _
          go_simp
          rw [← hWw3]
          clear hWw3
          refine hK.out _ _ (chainP hH hbw3) (fun hH => ?_)
          clear hK K
          try simp only [Act.put, List.getElem_toArray, List.getElem_cons_succ, List.getElem_cons_zero, List.setIfInBounds_toArray, List.set_cons_zero, List.set_cons_succ]
          refine wpAnyH_ready (rs := [1]) (by kernel_rfl) (by simp) ?_
          refine AllReadyH.cons rfl (fun K hK => ?_) AllReadyH.nil
          go_simp
          refine (own_any (.slice aox nx cx) s _ (HXR.out.below hH) HXL.out).mono ?_
          rintro e w4 ⟨v3, rfl, hown3, hb3⟩
          obtain ⟨a4, n4, c4, rfl⟩ : ∃ a n c, v3 = .slice a n c := by obtain ⟨a, c, e⟩ := ownsRow_formN hown3; exact ⟨a, _, c, e⟩
          have HO3 := hid hown3
          have HS3 := hid (And.intro hH.size hb3.size)
          have HP4 := hid (HPw3.out.below hb3)
          refine hK.out _ _ (chainP hH hb3) (fun hH => ?_)
          clear hK K
          try simp only [Act.put, List.getElem_toArray, List.getElem_cons_succ, List.getElem_cons_zero, List.setIfInBounds_toArray, List.set_cons_zero, List.set_cons_succ]
          refine wpAnyH_take (i := 4) (v := ?_) rfl (by kernel_rfl) (by kernel_rfl) (by kernel_rfl) (fun _ _ _ h => h) (Or.inl ⟨by kernel_rfl, ?_⟩) hH ?_
          rotate_left
          · intro W hS
            go_simp
            first | done | with_reducible rfl
          simp only [Act.put, List.getElem_toArray, List.getElem_cons_succ, List.getElem_cons_zero, List.setIfInBounds_toArray, List.set_cons_zero, List.set_cons_succ]
          have hsz3 : wx.heap.size ≤ w0.heap.size := HS0.out
          have hlt3 : w0.heap.size < w3.heap.size := HPw3.out.lt
          refine wpAnyH_ready (rs := [6]) (by kernel_rfl) (by simp) ?_
          refine AllReadyH.cons rfl (fun K hK => ?_) AllReadyH.nil
          rw [if_pos (by kernel_rfl)]
          refine wp_store_row 66 _ _ rfl w0.heap.size (rowRz (s, .slice a4 n4 c4, g + 1)) rfl rfl 66 zeroRule HP4.out infoRule rfl (oneRule _ _ _ _ _ _ _ _ _ _) ?_
          refine hK.out _ _ (below_setRow hH (by omega) _) (fun hH => ?_)
          clear hK K
          try simp only [Act.put, List.getElem_toArray, List.getElem_cons_succ, List.getElem_cons_zero, List.setIfInBounds_toArray, List.set_cons_zero, List.set_cons_succ]
          refine wpAnyH_done (by kernel_rfl) ?_ _
          go_wp2_with fail
          go_meet
          case rel => exact ⟨w0.heap.size, .slice a4 n4 c4, rfl, HP4.out.setRow _, (ownsRow_kept HO3.out ((Kept.refl (fun k => k = w0.heap.size) w4).setRow (g := w0.heap.size) (.inl rfl) _) (fun k hk e => by have := (HO3.out.lt k hk).1; omega)).base HS3.out.1, hH, hsz3, fun e => by have := (HO3.out.lt _ e).1; omega⟩
      case rest =>
      rename World => w8
      obtain ⟨p, v4, rfl, hp, hown4, hb8, hpx, hvp⟩ := hcut
      obtain ⟨a4, n4, c4, rfl⟩ : ∃ a n c, v4 = .slice a n c := by obtain ⟨a, c, e⟩ := ownsRow_formN hown4; exact ⟨a, _, c, e⟩
      have hbc := chainP HBX.out hb8
      have HBC := hid (And.intro hbc (And.intro hb8 (And.intro hpx hvp)))
      have HP := hid (And.intro hp hown4)
      have kac : ActsAt w8 b6 N6 (actF (L.map (·.1)) (LC.map (·.1))) := (KA.out.below HBX.out).below hb8
      obtain ⟨q, hq⟩ : ∃ q, kindP (L.map (·.1)) s = q := ⟨_, rfl⟩
      have hfq : actF (L.map (·.1)) (LC.map (·.1)) s.host = some q := by rw [actF_site HC.out.2.2 (List.mem_map.2 ⟨_, HX.out.2, rfl⟩), hq]
      obtain ⟨DD, hownm, hmap, hat⟩ := kac
      have hkey : keyOf Tryz.prog 9 (strV s.host) = some (.string s.host) := WideMaps.keyOf_string_mk Tryz.underlying9 (s := ⟨s.host.toArray⟩) (by rw [szL]; have := HXH.out; unfold maxLen; omega)
      obtain ⟨rv, ps, hrun, hv⟩ := hownm.lookup lawS Tryz.underlying94 (zeroAct w8) (show actR (.agg #[.int .i64 0, .string ⟨#[]⟩]) = some (.agg [.lit (.int .i64 0), .lit (.string [])], []) from rfl) hkey
      rw [hat s.host, hfq] at hv
      obtain rfl := actR_inv hv
      have z0 : w8.cell? ⟨p, 0, none⟩ = some (strV s.host) := hp.cell 0
      have HQQ := hid hq
      clear hownm hmap hat hkey hv hfq hq hown4 hbc hb8 hpx hvp
      have hfd := fun (z : Int) (W : World) => fieldAct z s.host W
      go_upto_if 54 with fail
      clear hfd hrun z0
      go_cut [] from 48 to 65 (fun W' => ∃ (zz : Int), zz = sinceN (g + 1) (tT L) s ∧ rowIs W' p (rowRz (s, .slice a4 n4 c4, zz)) 66 ∧ Kept (fun k => k = p) w8 W')
      case first =>
        by_cases hq0 : q = 0
        · have h0 : ((q : Nat) : Int) = 0 := by omega
          obtain ⟨x, hfx, hsx⟩ := since_keep (g := g + 1) (HQQ.out.trans hq0)
          have r0 : rowIs w8 w.heap.size #[.int .i64 g, .slice ao n cap] 52 := KR0.out.below HBC.out.1
          have z0 : w8.cell? ⟨p, 0, none⟩ = some (strV s.host) := hp.cell 0
          have hbrc := chainP HBR.out HBC.out.1
          have CFI := hid (tableFind_any g (.slice ao n cap) L s.host w8 (HF.out.2.1.below hbrc) HF.out.1.len HF.out.1.heads)
          have HHL := hid hsx
          have HFX := hid hfx
          clear hq0 hp hbrc hsx hfx
          go_wp2_with (refine wpList_load_row rfl 52 _ rfl w.heap.size rfl 52 _ (0, 0) _ r0 Tryz.underlying52 rfl infoTable ?_)
          refine CFI.out.mono ?_
          rintro e w9 ⟨hp9, hb9⟩
          rw [HFX.out] at hp9
          obtain ⟨v9, rfl, hr9⟩ := hp9
          obtain ⟨a9, c9, hf9⟩ := hr9.form
          obtain ⟨n9, hn9⟩ : ∃ n, (x.1.heads.map strV).length = n := ⟨_, rfl⟩
          rw [hn9] at hf9
          subst hf9
          obtain ⟨wy, hWY⟩ : ∃ W, w9.alloc (.cells (rowRz (x.1, .slice a9 n9 c9, x.2.2)) 66) = W := ⟨_, rfl⟩
          have hby : Below w9.heap.size w9 wy := by rw [← hWY]; exact below_alloc _ _
          have x7 : wy.cell? ⟨w9.heap.size, 7, none⟩ = some (.int .i64 x.2.2) := by rw [← hWY]; exact (rowIs_new _ _ _).cell 7
          have hpy : rowIs wy p (rowRz (s, .slice a4 n4 c4, g + 1)) 66 := HP.out.1.below (chainP hb9 hby)
          have p7 := hpy.cell 7
          have f7 := hpy.free 7
          have HKQ := hid ((Kept.of_below (X := fun k => k = p) (chainP hb9 hby)).setCell (i := 7) (.inl rfl) (.int .i64 x.2.2))
          have HW7 := hid (hpy.setCell 7 (.int .i64 x.2.2))
          clear z0 r0 hb9 hr9 hn9 hby hpy
          go_wp2_with fail
          go_meet
          case rel => exact ⟨x.2.2, HHL.out.symm, HW7.out, HKQ.out⟩
        · have h0 : ¬ ((q : Nat) : Int) = 0 := by omega
          have h0b : (((q : Nat) : Int) == 0) = false := by simp; omega
          have hsn := since_new (g := g + 1) (show ¬ kindP (L.map (·.1)) s = 0 by rw [HQQ.out]; exact hq0)
          go_wp2_with fail
          go_meet
          case rel => exact ⟨g + 1, hsn.symm, HP.out.1, Kept.refl _ _⟩
      case rest =>
        obtain ⟨zz, hzz, hpq, hkq⟩ := hcut
        have hkx : Kept (fun k => wx.heap.size ≤ k) wx wc := (Kept.of_below (X := fun k => wx.heap.size ≤ k) HBC.out.2.1).trans hkq (fun k h hk => by have := HBC.out.2.2.1; omega)
        have hbx9 : Below wx.heap.size wx wc := hkx.below (fun k h _ => h) (Nat.le_refl _)
        have HBQ := hid (chainP HBX.out hbx9)
        have HOQ := hid (ownsRow_kept HP.out.2 hkq (fun k hk e => by subst e; exact HBC.out.2.2.2 hk))
        obtain ⟨wz, hWZ⟩ : ∃ W, wc.alloc (.cells (rowRz (s, .slice a4 n4 c4, zz)) 66) = W := ⟨_, rfl⟩
        have hbz : Below wc.heap.size wc wz := by rw [← hWZ]; exact below_alloc _ _
        have hrz : rowIs wz wc.heap.size (rowRz (s, .slice a4 n4 c4, zz)) 66 := by rw [← hWZ]; exact rowIs_new _ _ _
        have hbwz := chainP HBQ.out hbz
        have hzw := HR.out.2.1.below hbwz
        have hoz := HOQ.out.below hbz
        have hbB : rowIs wc B #[.int .i64 (g + 1), .slice aos ns cs] 52 := HR.out.1.below HBQ.out
        have c1 := hbB.cell 1
        have HZ := hid (And.intro hzw (And.intro hoz (And.intro (HR.out.1.below hbwz) (And.intro hbwz hrz.lt))))
        have HSZ := hid (show D < wx.heap.size ∧ (∀ k, (Value.slice aos ns cs).ownBlock = some k → k < wx.heap.size) ∧ D < wz.heap.size by
          have h1 := HD.out.2.2.1
          have h2 := HR.out.2.2.size
          have h3 := HBX.out.size
          have h4 := HBQ.out.size
          have h5 := hbz.size
          exact ⟨by omega, fun k hk => by have := (HR.out.2.1.own.lt k hk).2; omega, by omega⟩)
        have hown := hzw.own
        have hZ := hid hzz
        have hns4 : T.length + 1 < 4294967296 := by have := HNK.out; have := HNS.out; omega
        clear hzz hkq hkx hbx9 hbz hbwz hzw hoz hbB hp
        go_wp2_with (first
          | (refine wpList_load_row rfl 66 _ rfl p rfl 66 _ (0, 0) _ hpq Tryz.underlying66 rfl infoRule ?_)
          | (at_builtin; go_must (refine wpList_append_gen wz rfl _ _ 50 rfl 0 66 Tryz.underlying50 infoRuleA rfl (by decide) (by decide) (v := .slice aos ns cs) rfl hown ⟨wc.heap.size, 0, none⟩ 1 1 (rowRz (s, .slice a4 n4 c4, zz)).toList rfl (fun j u hj => by rw [addAt2, Nat.zero_add, hrz.cell j]; simpa using hj) rowRz_one rfl hns4 (Nat.zero_le _) ?_); intro v6 w6 ho6 hg6 hi6; obtain ⟨ao6, n6, c6, rfl⟩ : ∃ ao n c, v6 = Value.slice ao n c := (by obtain ⟨ao, c, e⟩ := ownsRow_formN ho6; exact ⟨ao, _, c, e⟩); have hB6 := HZ.out.2.2.1.kept ((Kept.refl (fun k => (Value.slice aos ns cs).ownBlock = some k) wz).grown hg6 (fun k hk _ => hk)) (fun e => by have h1 := HZ.out.1.inn _ e; have h2 := HD.out.1; omega); have cB6 := hB6.cell 1; have fB6 := hB6.free 1))
        have kk6 := (Kept.refl (fun k => (Value.slice aos ns cs).ownBlock = some k) wz).grown hg6 (fun k hk _ => hk)
        have M6 := HZ.out.1.more (M := wx.heap.size) (hd := s.heads) HZ.out.2.1 HSZ.out.1 HSZ.out.2.1 ho6 hg6 hi6 HSZ.out.2.2
        have kB := (Kept.refl (fun k => k = B) w6).setCell (i := 1) (.inl rfl) (.slice ao6 n6 c6)
        have H6 := hid (And.intro (hB6.setCell 1 (.slice ao6 n6 c6)) (And.intro (M6.kept kB (fun k hk _ e => by have := HD.out.1; omega)) (((HR.out.2.2.trans (Kept.of_below (X := fun _ => False) HZ.out.2.2.2.1) (fun k h _ => h.elim)).trans kk6 (fun k h hk => by have h1 := HR.out.2.1.inn k h; have h2 := HD.out.2.2.1; omega)).trans kB (fun k h _ => h))))
        clear c1 hpq hrz hown hB6 cB6 fB6 kk6 M6 kB ho6 hg6 hi6
        go_wp2_with fail
        go_roundw
        case rel =>
          refine ⟨k + 1, _, T ++ [(s, .slice a4 n4 c4, zz)], by go_num, hlt, ?_, H6.out.1, ?_, H6.out.2.2⟩
          · rw [nextL_at HX.out.1, ← HE.out, ← hZ.out]
            unfold tT
            rw [List.map_append]; rfl
          · unfold RulesOwn hsR
            rw [rowsR_snoc, List.length_append, List.map_append]
            exact H6.out.2.1
        case measure => simp [intOf]; omega
    · have hkn : k = m := by omega
      have e0 : (nextL g (tT L) (LC.map (·.1))).take k = nextL g (tT L) (LC.map (·.1)) := List.take_of_length_le (by rw [nextL_len, List.length_map]; have := HLN.out.2; omega)
      have HEE := hid (he.trans e0)
      have hkI : ¬ (k : Int) < (m : Int) := by omega
      obtain ⟨w0, hw0⟩ : ∃ W, wr.drew = W := ⟨_, rfl⟩
      have hbd : Below wr.heap.size wr w0 := by rw [← hw0]; exact (Below.refl _ _).drew
      have HBD := hid hbd
      have KA0 := hid (KA.out.below hbd)
      have HA0 := hid (KR2.out.below hbd)
      clear he hrb hz hkp hbr e0 hkn hns hbd
      go_wp2_with fail
      refine wp_region_held_drew (S := fun w' => rowIs w' B #[.int .i64 (g + 1), .slice aos ns cs] 52 ∧ Below w.heap.size w w') (by kernel_rfl) ⟨HR.out.1.below ((Below.refl _ _).drew), HBR.out.drew⟩ (fun hH => ?_)
      rw [hw0] at hH ⊢
      clear hw0
      refine wpAnyH_take (i := 0) (v := .agg #[.int .i64 (g + 1), .slice aos ns cs]) rfl (by kernel_rfl) (by kernel_rfl) (by kernel_rfl) (fun _ _ _ h => h) (Or.inl ⟨by kernel_rfl, ?_⟩) hH ?_
      · intro W hS
        exact load_gives rfl _ rfl hS.1 Tryz.underlying52 rfl infoTable
      simp only [Act.put, List.getElem_toArray, List.getElem_cons_succ, List.getElem_cons_zero, List.setIfInBounds_toArray, List.set_cons_zero, List.set_cons_succ]
      refine wpAnyH_take (i := 1) (v := ?_) rfl (by kernel_rfl) (by kernel_rfl) (by kernel_rfl) (fun _ _ _ h => h) (Or.inl ⟨by kernel_rfl, ?_⟩) hH ?_
      rotate_left
      · intro W hS
        go_simp
        first | done | with_reducible rfl
      simp only [Act.put, List.getElem_toArray, List.getElem_cons_succ, List.getElem_cons_zero, List.setIfInBounds_toArray, List.set_cons_zero, List.set_cons_succ]
      refine wpAnyH_ready (rs := [2]) (by kernel_rfl) (by simp) ?_
      refine AllReadyH.cons rfl (fun K hK => ?_) AllReadyH.nil
      go_simp
      refine (rising_any b6 N6 _ w0 KA0.out HA6.out.2).mono ?_
      rintro e w7 ⟨va, hosts, rfl, hrs, hown7, hb7⟩
      have HRS := hid (And.intro hrs (And.intro hown7 hb7))
      have hA7 := HA0.out.below hb7
      have hS7 := hid (show rowIs w7 B #[.int .i64 (g + 1), .slice aos ns cs] 52 ∧ Below w.heap.size w w7 from ⟨hH.1.below hb7, chainP hH.2 hb7⟩)
      clear hrs hown7 hb7
      refine hK.out _ _ hS7.out (fun hH => ?_)
      clear hK K
      try simp only [Act.put, List.getElem_toArray, List.getElem_cons_succ, List.getElem_cons_zero, List.setIfInBounds_toArray, List.set_cons_zero, List.set_cons_succ]
      refine wpAnyH_ready (rs := [3]) (by kernel_rfl) (by simp) ?_
      refine AllReadyH.cons rfl (fun K hK => ?_) AllReadyH.nil
      rw [if_pos (by kernel_rfl)]
      refine wp_store_row 52 _ _ rfl (w.heap.size + 1 + 1) #[.int .i64 (g + 1), .slice aos ns cs] rfl rfl 52 zeroTab hA7 infoTable rfl (oneTab _ _ _ _) ?_
      refine hK.out _ _ ⟨hH.1.setRow_other _ (by have := HD.out; omega), below_setRow hH.2 (by omega) _⟩ (fun hH => ?_)
      clear hK K
      try simp only [Act.put, List.getElem_toArray, List.getElem_cons_succ, List.getElem_cons_zero, List.setIfInBounds_toArray, List.set_cons_zero, List.set_cons_succ]
      refine wpAnyH_take (i := 4) (v := ?_) rfl (by kernel_rfl) (by kernel_rfl) (by kernel_rfl) (fun _ _ _ h => h) (Or.inl ⟨by kernel_rfl, ?_⟩) hH ?_
      rotate_left
      · intro W hS
        go_simp
        first | done | with_reducible rfl
      simp only [Act.put, List.getElem_toArray, List.getElem_cons_succ, List.getElem_cons_zero, List.setIfInBounds_toArray, List.set_cons_zero, List.set_cons_succ]
      refine wpAnyH_take (i := 5) (v := ?_) rfl (by kernel_rfl) (by kernel_rfl) (by kernel_rfl) (fun _ _ _ h => h) (Or.inl ⟨by kernel_rfl, ?_⟩) hH ?_
      rotate_left
      · intro W hS
        go_simp
        first | done | with_reducible rfl
      simp only [Act.put, List.getElem_toArray, List.getElem_cons_succ, List.getElem_cons_zero, List.setIfInBounds_toArray, List.set_cons_zero, List.set_cons_succ]
      refine wpAnyH_done (by kernel_rfl) ?_ _
      go_wp2_with fail
      refine bodyPost_ret (results_row3 Tryz.results23 _ _ (w.heap.size + 1 + 1) _ rfl (hA7.setRow #[.int .i64 (g + 1), .slice aos ns cs]) Tryz.underlying52 rfl infoTable) rfl ?_
      have k7 := (Kept.refl (fun k => k = w.heap.size + 1 + 1) w7).setRow (g := w.heap.size + 1 + 1) (.inl rfl) #[.int .i64 (g + 1), .slice aos ns cs]
      have hz7 := (HR.out.2.1.below (chainP HBD.out HRS.out.2.2)).kept k7 (fun k hk _ e => by have := HD.out; omega)
      have h0 : w.heap.size ≤ w0.heap.size := Nat.le_trans HBR.out.size HBD.out.size
      have ha7 := (ownsRow_kept HRS.out.2.1 k7 (fun k hk e => by have h1 := (HRS.out.2.1.lt k hk).1; have h2 := HA0.out.lt; omega)).base h0
      rw [risen_acts HRS.out.1] at ha7
      refine ⟨?_, hH.2⟩
      rw [HQT.out.1, HQT.out.2, HGB.out]
      refine ⟨_, T, va, rfl, HEE.out, hz7.mono HD.out.2.2.2.2, ?_⟩
      rw [← risen_len HRS.out.1 rfl]
      exact ha7
end Go.Proofs.YtenijpcjemdhfaaGreatDoor
