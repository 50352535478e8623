/-
  The walk of the statement PlanServes.
-/
import Derived.Test.YtenijpcjemdhfaaGreatDoorP10d09
import Derived.Test.YtenijpcjemdhfaaGreatDoorP10d06
import Derived.Test.YtenijpcjemdhfaaGreatDoorP10d07
import Derived.Test.YtenijpcjemdhfaaGreatDoorCardConf
import Derived.Deep.CutRange
namespace Go.Pantry
open Go.RowKit
/-- from generation j on that host had that site -/
def SameS (Ws : List (List SiteZ)) (host : List UInt8) (r : SiteZ) (j : Nat) : Prop := ∀ k C, j ≤ k → Ws[k]? = some C → findS C host = some r
theorem SameS.step {Ws : List (List SiteZ)} {host : List UInt8} {r : SiteZ} {i : Nat} {C : List SiteZ} (h : Ws[i]? = some C) : SameS Ws host r i ↔ SameS Ws host r (i + 1) ∧ findS C host = some r := by
  constructor
  · intro H
    exact ⟨fun k D hk hD => H k D (by omega) hD, H i C (Nat.le_refl _) h⟩
  · rintro ⟨H, e⟩ k D hk hD
    by_cases q : k = i
    · subst q
      rw [h] at hD
      cases hD
      exact e
    · exact H k D (by omega) hD
theorem SameS.top {Ws : List (List SiteZ)} {host : List UInt8} {r : SiteZ} {j : Nat} (h : Ws.length ≤ j) : SameS Ws host r j := fun k C hk hC => by
  have := (List.getElem?_eq_some_iff.1 hC).1
  omega
end Go.Pantry
namespace Go.Proofs.YtenijpcjemdhfaaGreatDoor
open Go.RowKit Go.Pantry

theorem infoCfgA : (Tryz.prog.info? 25).map (fun i => (i.zero, i.size, i.bytes)) = some (some (.agg #[.slice none 0 0]), 1, 24) := by kernel_rfl
theorem oneCf (ao : Option Addr) (n c : Nat) : (#[.slice ao n c] : Array Value).all (·.oneCell') = true := by simp [Value.oneCell']
theorem fewR_right {g : Int} {T : List RuleZ} (h : rightT g (tT T) = true) (hr : ∀ x ∈ T, Room x.2.1) : FewR T := by
  have hc := (rightT_iff.1 h).2.2
  rw [tT_map] at hc
  obtain ⟨h8, h2, _⟩ := rightC_iff.1 hc
  rw [List.length_map] at h8
  have each : ∀ x ∈ T, x.1.host.length ≤ 46 ∧ x.1.heads.length ≤ 4 ∧ ∀ y ∈ x.1.heads, y.length ≤ 64 := fun x hx => right_few (h2 _ (List.mem_map.2 ⟨x, hx, rfl⟩))
  exact ⟨by omega, hr, fun x hx => by have := (each x hx).1; omega, fun x hx => by have := (each x hx).2.1; omega, fun x hx y hy => by have := (each x hx).2.2 y hy; omega⟩
theorem serves_any (hv : Value) (r : RuleZ) (g : Int) (w : World) :
    Calls Tryz.prog 36 #[.agg (rowRz (r.1, hv, r.2.2)), .int .i64 g] w fun e w' => e = .returned (.bool (decide (r.2.2 ≤ g))) ∧ Below w.heap.size w w' := by
  have hb : Below w.heap.size w (w.alloc (.cells (rowRz (r.1, hv, r.2.2)) 66)) := below_alloc _ _
  have HB := hid hb
  clear hb
  go_enter Tryz.func36, Tryz.ntmps36
  go_wp2_with fail
  go_ret
  exact ⟨by first | rfl | simp, HB.out⟩
/-- the table in its box, the configs so far, and what is known of them -/
structure Srv (W w : World) (p : Nat) (sv : Value) (tv : Value) (T : List RuleZ) (Vs : List (Value × List (SiteZ × Value))) : Prop where
  row : rowIs w p #[.int .i64 ((Vs.length - 1 : Nat) : Int), tv] 52
  rules : RulesOwn w p tv T
  own : w.ownsRow 0 25 1 sv Vs.length (Vs.map (·.1))
  inn : In (fun k => p < k) sv
  each : ∀ x ∈ Vs, ReadsP W x.1 x.2 ∧ Few x.2
  hist : Hist (Vs.map fun x => x.2.map (·.1)) (tT T)
  right : rightT ((Vs.length - 1 : Nat) : Int) (tT T) = true
  below : Below W.heap.size W w
  lo : W.heap.size ≤ p
theorem Srv.mono {W w w' : World} {p : Nat} {sv tv : Value} {T : List RuleZ} {Vs : List (Value × List (SiteZ × Value))} (h : Srv W w p sv tv T Vs) (hb : Below w.heap.size w w') : Srv W w' p sv tv T Vs :=
  ⟨h.row.below hb, h.rules.below hb, ownsRow_kept h.own (Kept.of_below (X := fun _ => False) hb) (fun _ _ h => h), h.inn, h.each, h.hist, h.right, chainP h.below hb, h.lo⟩
theorem next_form {w w' : World} {g : Int} {L : List RuleZ} {C : List SiteZ} {e : Ending} (h : NextPost w g L C e w') (hr : rightT g (tT L) = true) (hg : g < 253402300799) :
    ((rightC C = true ∧ ∃ ao n c L' va, e = .returned (.tuple #[.agg #[.int .i64 (g + 1), .slice ao n c], va, .int .i64 0]) ∧ tT L' = nextL g (tT L) C ∧ RulesOwn w' w.heap.size (.slice ao n c) L') ∨ (rightC C = false ∧ e = .returned (.tuple #[.agg zeroTab, .slice none 0 0, .int .i64 10]))) ∧ Below w.heap.size w w' := by
  obtain ⟨h1, hb⟩ := h
  have hgb : (g == 253402300799) = false := by simpa using Int.ne_of_lt hg
  rw [hr, hgb] at h1
  refine ⟨?_, hb⟩
  cases q : rightC C
  · rw [q] at h1
    exact .inr ⟨rfl, h1⟩
  · rw [q] at h1
    obtain ⟨v, L', va, he, ht, ho, _⟩ := h1
    obtain ⟨ao, c, hv⟩ := ownsRow_formN ho.own
    subst hv
    exact .inl ⟨rfl, ao, _, c, L', va, he, ht, ho⟩
theorem find_form {w w' : World} {L : List (SiteZ × Value)} {host : List UInt8} {e : Ending} (h : FindPost w L host e w') (hf : Few L) :
    ∃ (sz : SiteZ) (ah : Option Addr) (nh ch : Nat) (ok : Bool), e = .returned (.tuple #[.agg (rowZ (.slice ah nh ch) sz), .bool ok]) ∧ Reads w' (.slice ah nh ch) (sz.heads.map strV) ∧ sz.heads.length ≤ 1000000 ∧ findS (L.map (·.1)) host = (if ok then some sz else none) ∧ Below w.heap.size w w' := by
  obtain ⟨h1, hb⟩ := h
  have hfs : findS (L.map (·.1)) host = (L.find? (fun x => x.1.host == host)).map (·.1) := by unfold findS; rw [List.find?_map]; rfl
  cases q : L.find? (fun x => x.1.host == host) with
  | none =>
    rw [q] at h1 hfs
    exact ⟨⟨[], 0, 0, 0, false, false, []⟩, none, 0, 0, false, h1, ⟨none, 0, rfl, (fun j u hj => by cases hj), fun _ => rfl⟩, by simp, hfs, hb⟩
  | some x =>
    rw [q] at h1 hfs
    obtain ⟨hv, he, hr⟩ := h1
    obtain ⟨ah, ch, e2⟩ := hr.form
    subst e2
    exact ⟨x.1, ah, _, ch, true, he, hr, hf.heads _ (List.mem_of_find?_eq_some q), hfs, hb⟩
/-- a round: the next table in the box, the config appended -/
theorem Srv.more {W w0 w5 w6 w8 w10 : World} {p : Nat} {sv tv v' v VC : Value} {T L' : List RuleZ} {Vs : List (Value × List (SiteZ × Value))} {LC : List (SiteZ × Value)} {z : Int} (hz : z = ((Vs.length : Nat) : Int)) (h : Srv W w0 p sv tv T Vs) (h1 : 1 ≤ Vs.length) (hG : Vs.length ≤ 11)
    (h5 : Below w0.heap.size w0 w5) (hr : RulesOwn w6 w5.heap.size v L') (hb56 : Below w5.heap.size w5 w6) (hb68 : Below w6.heap.size w6 w8)
    (hn : tT L' = nextL ((Vs.length - 1 : Nat) : Int) (tT T) (LC.map (·.1))) (hC : rightC (LC.map (·.1)) = true) (hRC : ReadsP W VC LC) (fC : Few LC)
    (ho : w10.ownsRow 0 25 1 v' (Vs.length + 1) (Vs.map (·.1) ++ [VC])) (kk : Kept (fun k => sv.ownBlock = some k) (w8.setRow p #[.int .i64 z, v]) w10) (hi : In (fun k => sv.ownBlock = some k ∨ w8.heap.size ≤ k) v') :
    Srv W w10 p v' v L' (Vs ++ [(VC, LC)]) := by
  subst hz
  have hp0 := h.row.lt
  have hsv : ∀ k, sv.ownBlock = some k → p < k ∧ k < w0.heap.size := fun k hk => ⟨h.inn k hk, (h.own.lt k hk).2⟩
  have s5 := h5.size
  have s6 := hb56.size
  have s8 := hb68.size
  have r8 : rowIs w8 p #[.int .i64 ((Vs.length - 1 : Nat) : Int), tv] 52 := ((h.row.below h5).below hb56).below hb68
  have r9 := r8.setRow #[.int .i64 ((Vs.length : Nat) : Int), v]
  have r10 := r9.kept kk (fun e => Nat.lt_irrefl _ (hsv p e).1)
  have k8 := (Kept.of_below (X := fun k => k = p) hb68).setRow (g := p) (.inl rfl) #[.int .i64 ((Vs.length : Nat) : Int), v]
  have hlen : (Vs ++ [(VC, LC)]).length = Vs.length + 1 := by simp
  have hmapl : ((Vs ++ [(VC, LC)]).map fun x => x.2.map (·.1)) = (Vs.map fun x => x.2.map (·.1)) ++ [LC.map (·.1)] := by simp
  refine ⟨?_, ?_, ?_, fun k hk => ?_, fun x hx => ?_, ?_, ?_, ?_, h.lo⟩
  · rw [hlen, Nat.add_sub_cancel]; exact r10
  · have k1 : OwnAt (w8.setRow p #[.int .i64 ((Vs.length : Nat) : Int), v]) 66 8 9 w5.heap.size v L'.length (rowsR L') (hsR L') := hr.kept k8 (fun k h1 h2 e => by omega)
    have hall := k1.kept kk (fun k h1 h2 e => by have := hsv k e; omega)
    exact hall.mono (by omega)
  · rw [hlen, List.map_append]; exact ho
  · rcases hi k hk with e | e
    · exact (hsv k e).1
    · omega
  · rcases List.mem_append.1 hx with e | e
    · exact h.each x e
    · rw [List.mem_singleton] at e
      subst e
      exact ⟨hRC, fC⟩
  · rw [hmapl, hn]
    have := h.hist.next (C := LC.map (·.1)) (nodup_right hC)
    rw [List.length_map] at this
    exact this
  · rw [hlen, Nat.add_sub_cancel, hn]
    have := nextL_right h.right hC (by omega)
    rw [show ((Vs.length - 1 : Nat) : Int) + 1 = ((Vs.length : Nat) : Int) by omega] at this
    exact this
  · have b8 : Below W.heap.size W (w8.setRow p #[.int .i64 ((Vs.length : Nat) : Int), v]) := below_setRow (chainP (chainP (chainP h.below h5) hb56) hb68) h.lo _
    exact ((Kept.of_below (X := fun k => p < k) b8).trans kk (fun k e _ => (hsv k e).1)).below (fun k hk _ => by have := h.lo; omega) (Nat.le_refl _)
set_option maxRecDepth 100000 in
set_option maxHeartbeats 16000000 in
theorem planServes_walk (V : Value) (M : List (Value × List (SiteZ × Value))) (s : ByteArray) (w : World) (hm : MaxOk w) (ht : Tab10 w) (hM : ReadsCs w V M ∧ M.length ≤ maxLen ∧ ∀ x ∈ M, x.2.length ≤ maxLen ∧ ∀ y ∈ x.2, SiteFit y.1 y.2) (hs : s.size ≤ maxLen) :
    Calls Tryz.prog 7 #[V, .string s] w fun e w' => e = .returned (.bool true) ∧ Below w.heap.size w w' := by
  obtain ⟨hr, hlen, hfit⟩ := hM
  unfold maxLen at hlen hs
  have hfit2 : ∀ x ∈ M, x.2.length ≤ 9223372036854775807 ∧ (∀ y ∈ x.2, y.1.heads.length ≤ 9223372036854775807) ∧ ∀ y ∈ x.2, Room y.2 := fun x hx => by
    have h1 := (hfit x hx).1
    unfold maxLen at h1
    refine ⟨by omega, fun y hy => ?_, fun y hy => ((hfit x hx).2 y hy).1⟩
    have := ((hfit x hx).2 y hy).2.2.1
    unfold maxLen at this
    omega
  obtain ⟨T0, hT⟩ : ∃ T, s.data.toList = T := ⟨_, rfl⟩
  have hTl : T0.length = s.size := by rw [← hT, size_list]
  have hsT : (.string s : Value) = strV T0 := by rw [← hT]
  rw [hsT]
  obtain ⟨av, cv, hv⟩ := hr.reads.form
  rw [List.length_map] at hv
  obtain ⟨n, hn⟩ : ∃ n, M.length = n := ⟨_, rfl⟩
  rw [hn] at hlen hv
  subst hv
  have HN := hid hn
  have HR := hid (And.intro hr hfit2)
  have HM := hid (And.intro hm ht)
  have AN := hid (anchor10_any w hm ht)
  clear hm ht hr hfit hfit2 hn hT hsT
  go_enter Tryz.func7, Tryz.ntmps7
  go_wp2_with fail
  refine AN.out.mono ?_
  rintro e w1 ⟨rfl, hb1⟩
  have HB1 := hid hb1
  clear hb1 AN
  by_cases h10 : (10 : Int) < (n : Int)
  · have d1 : decide ((10 : Int) < (n : Int)) = true := decide_eq_true h10
    go_wp2_with fail
    go_ret
    exact ⟨rfl, HB1.out⟩
  have d1 : decide ((10 : Int) < (n : Int)) = false := decide_eq_false h10
  by_cases h60 : (60 : Int) < (T0.length : Int)
  · have d2 : decide ((60 : Int) < (T0.length : Int)) = true := decide_eq_true h60
    go_wp2_with fail
    go_ret
    exact ⟨rfl, HB1.out⟩
  have d2 : decide ((60 : Int) < (T0.length : Int)) = false := decide_eq_false h60
  have HN10 := hid (show n ≤ 10 by omega)
  clear h10 h60 hs hTl hlen
  go_wp2_with fail
  refine (first_any w1).mono ?_
  rintro e w2 ⟨rfl, hb2⟩
  have HB2 := hid (chainP HB1.out hb2)
  clear hb2 d1 d2
  obtain ⟨W3, hW3⟩ : ∃ W, w2.alloc (.cells zeroTab 52) = W := ⟨_, rfl⟩
  have hb3 : Below w2.heap.size w2 W3 := by rw [← hW3]; exact below_alloc _ _
  have r3 : rowIs W3 w2.heap.size zeroTab 52 := by rw [← hW3]; exact rowIs_new _ _ _
  obtain ⟨W4, hW4⟩ : ∃ W, W3.alloc (.cells #[.slice none 0 0] 25) = W := ⟨_, rfl⟩
  have hb4 : Below W3.heap.size W3 W4 := by rw [← hW4]; exact below_alloc _ _
  have hs3 : W3.heap.size = w2.heap.size + 1 := by rw [← hW3]; simp
  have o4 : W4.ownsRow 0 25 1 (.slice (some ⟨w2.heap.size + 1, 0, none⟩) 1 1) 1 [.slice none 0 0] := by
    rw [← hs3, ← hW4]
    refine ⟨rfl, .inr ⟨W3.heap.size, 1, #[.slice none 0 0], rfl, Nat.zero_le _, ?_, Nat.le_refl _, by decide, rfl, rfl⟩⟩
    exact rowIs_new W3 #[.slice none 0 0] 25
  have J0 : Hid (Srv w W4 w2.heap.size (.slice (some ⟨w2.heap.size + 1, 0, none⟩) 1 1) (.slice none 0 0) [] [(.slice none 0 0, [])]) := by
    refine ⟨r3.below hb4, OwnAt.nil _ _ _ _ _, o4, fun k hk => ?_, fun x hx => ?_, Hist.first, planT0, chainP HB2.out (chainP hb3 hb4), HB2.out.size⟩
    · have : w2.heap.size + 1 = k := Option.some.inj hk
      omega
    · rw [List.mem_singleton] at hx
      subst hx
      exact ⟨ReadsP.nil _ _, ⟨by simp, fun x h => absurd h List.not_mem_nil, fun x h => absurd h List.not_mem_nil, fun x h => absurd h List.not_mem_nil, fun x h => absurd h List.not_mem_nil⟩⟩
  have HW := hid (And.intro hW3 hW4)
  clear hb3 r3 hb4 hs3 o4 hW3 hW4
  go_wp2_with fail
  change Code.wp _ _ _ _ ((w2.alloc (.cells zeroTab 52)).alloc (.cells #[.slice none 0 0] 25))
  rw [HW.out.1, HW.out.2]
  obtain ⟨p, hp⟩ : ∃ p, w2.heap.size = p := ⟨_, rfl⟩
  rw [hp] at J0 ⊢
  clear hp HW
  go_loopw [6, 33] (fun s6 z wr => ∃ (k : Nat) (tv : Value) (T : List RuleZ) (Vs : List (Value × List (SiteZ × Value))), z = .int .i64 (k : Int) ∧ k ≤ n ∧ Srv w wr p s6 tv T Vs ∧ 1 ≤ Vs.length ∧ Vs.length ≤ k + 1) (fun _ z _ => n - (intOf z).toNat)
  case atStart => exact ⟨0, _, _, _, rfl, Nat.zero_le _, J0.out, by simp, by simp⟩
  case round =>
    clear J0
    obtain ⟨k, tv, T, Vs, rfl, hk, hJ, hl1, hl2⟩ := hrel
    have HJ := hid hJ
    have HL := hid (And.intro hl1 hl2)
    by_cases hlt : k < n
    · obtain ⟨⟨VC, LC⟩, hx⟩ : ∃ x, M[k]? = some x := by
        have := HN.out
        exact ⟨M[k]'(by omega), List.getElem?_eq_getElem (by omega)⟩
      have hmem := List.mem_of_getElem? hx
      have hRC := HR.out.1.each _ hmem
      have hQ := HR.out.2 _ hmem
      simp only at hRC hQ
      obtain ⟨ac, cc, ec, -⟩ := hRC.form
      obtain ⟨nc, hnc⟩ : ∃ n, LC.length = n := ⟨_, rfl⟩
      rw [hnc] at ec
      subst ec
      have hxm : (M.map (·.1))[k]? = some (.slice ac nc cc) := by rw [List.getElem?_map, hx]; rfl
      obtain ⟨av', cv', e1, f1, -⟩ := HR.out.1.reads.below hJ.below
      injection e1 with e1 e2 e3
      clear e2 e3
      subst e1
      obtain ⟨b1, o1, g1, i1⟩ := f1 k _ hxm
      subst g1
      have d1 : wr.cell? ⟨b1, o1 + k, none⟩ = some (.slice ac nc cc) := i1
      have hkI : (k : Int) < (n : Int) := by omega
      have hk0 : (0 : Int) ≤ (k : Int) := by omega
      have hkw : IntKind.i64.wrap ((k : Int) + 1) = (k : Int) + 1 := IntWalk.i64_in _ (by have := HN10.out; omega)
      have HRC := hid (And.intro hRC (And.intro hQ hnc))
      have r1 := rowIs_new wr #[.slice ac nc cc] 25
      have hb1 : Below wr.heap.size wr (wr.alloc (.cells #[.slice ac nc cc] 25)) := below_alloc _ _
      have HW1 := hid (And.intro hb1 r1)
      clear f1 hxm i1 hx hmem hRC hQ hnc hJ hl1 hl2 hb1
      go_wp2_with (refine wpList_load_row rfl 25 _ rfl wr.heap.size rfl 25 _ (0, 0) _ r1 Tryz.underlying25 rfl infoCfg ?_)
      obtain ⟨W1, hW1⟩ : ∃ W, wr.alloc (.cells #[.slice ac nc cc] 25) = W := ⟨_, rfl⟩
      change Calls _ _ _ (wr.alloc (.cells #[.slice ac nc cc] 25)) _
      rw [hW1] at HW1 ⊢
      clear hW1 r1 d1
      obtain ⟨q, hq⟩ : ∃ q, wr.heap.size = q := ⟨_, rfl⟩
      have RC8 : Hid (∀ W', Below W1.heap.size W1 W' → rowIs W' q #[.slice ac nc cc] 25) := fun W' h => by rw [← hq]; exact HW1.out.2.below h
      have JB := hid (And.intro HW1.out.1 (show q < W1.heap.size by rw [← hq]; exact HW1.out.2.lt))
      rw [hq]
      have HQ := hid hq
      clear hq HW1
      refine (smallSites_any (.slice ac nc cc) LC W1 (HRC.out.1.below (chainP HJ.out.below JB.out.1)) HRC.out.2.1.1 HRC.out.2.1.2.1).mono ?_
      rintro e w5 ⟨b, rfl, hsm, hb5⟩
      have HSM := hid hsm
      have HB5 := hid (And.intro hb5 (chainP JB.out.1 hb5))
      clear hsm hb5
      cases b
      · go_wp2_with fail
        go_ret
        exact ⟨rfl, chainP HJ.out.below HB5.out.2⟩
      have FC := hid (few_fit (HSM.out (by trivial)).1 (HSM.out (by trivial)).2 HRC.out.2.1.2.2)
      clear HSM
      have rt := (HJ.out.row.below HB5.out.2)
      have rc := RC8.out _ HB5.out.1
      obtain ⟨G, hG⟩ : ∃ G, Vs.length - 1 = G := ⟨_, rfl⟩
      rw [hG] at rt
      have HG := hid (show Vs.length = G + 1 ∧ G ≤ 10 from by have := HL.out; have := HN10.out; omega)
      clear hG
      go_wp2_with (first | (refine wpList_load_row rfl 52 _ rfl p rfl 52 _ (0, 0) _ rt Tryz.underlying52 rfl infoTable ?_) | (refine wpList_load_row rfl 25 _ rfl q rfl 25 _ (0, 0) _ rc Tryz.underlying25 rfl infoCfg ?_))
      have hright : rightT (G : Int) (tT T) = true := by have := HJ.out.right; rw [HG.out.1, Nat.add_sub_cancel] at this; exact this
      have hrr := HJ.out.rules.readsR
      refine (next_any (G : Int) tv (.slice ac nc cc) T LC w5 (hrr.1.below HB5.out.2) (fewR_right hright hrr.2) (HRC.out.1.below (chainP HJ.out.below HB5.out.2)) FC.out (HM.out.1.below (chainP HJ.out.below HB5.out.2)) (HM.out.2.below (chainP HJ.out.below HB5.out.2))).mono ?_
      rintro e w6 hq
      obtain ⟨hq, hb6⟩ := next_form hq hright (by have := HG.out.2; omega)
      have HB6 := hid hb6
      clear hb6 hrr hright
      rcases hq with ⟨hC, a6, n6, c6, L6, va6, rfl, ht6, ho6⟩ | ⟨hC, rfl⟩
      · obtain ⟨W7, hW7⟩ : ∃ W, w6.alloc (.cells #[.int .i64 ((G : Int) + 1), .slice a6 n6 c6] 52) = W := ⟨_, rfl⟩
        have hb7 : Below w6.heap.size w6 W7 := by rw [← hW7]; exact below_alloc _ _
        have r9 := rowIs_new w6 #[.int .i64 ((G : Int) + 1), .slice a6 n6 c6] 52
        have HW7 := hid (And.intro hb7 hW7)
        have rt7 := (rt.below HB6.out).below (show Below w6.heap.size w6 (w6.alloc (.cells #[.int .i64 ((G : Int) + 1), .slice a6 n6 c6] 52)) from below_alloc _ _)
        have HO6 := hid (And.intro ho6 ht6)
        have HC := hid hC
        clear hb7 hW7 rt rc ho6 ht6 hC
        go_upto_region 15 with (first
          | (refine wpList_load_row rfl 52 _ rfl w6.heap.size rfl 52 _ (0, 0) _ r9 Tryz.underlying52 rfl infoTable ?_)
          | (refine wpList_store_row rfl 52 _ _ rfl p #[.int .i64 ((G : Int) + 1), .slice a6 n6 c6] rfl rfl 52 _ rt7 infoTable rfl (oneTab _ _ _ _) ?_))
        obtain ⟨W8, hW8⟩ : ∃ W, W7.setRow p #[.int .i64 ((G : Int) + 1), .slice a6 n6 c6] = W := ⟨_, rfl⟩
        change Code.wp _ _ _ _ ((w6.alloc (.cells #[.int .i64 ((G : Int) + 1), .slice a6 n6 c6] 52)).setRow p #[.int .i64 ((G : Int) + 1), .slice a6 n6 c6])
        rw [HW7.out.2, hW8]
        obtain ⟨W9, hW9⟩ : ∃ W, W8.alloc (.cells #[.slice ac nc cc] 25) = W := ⟨_, rfl⟩
        have hb9 : Below W8.heap.size W8 W9 := by rw [← hW9]; exact below_alloc _ _
        have r9 : rowIs W9 W8.heap.size #[.slice ac nc cc] 25 := by rw [← hW9]; exact rowIs_new _ _ _
        have HLT := hid (show p < q ∧ q < W1.heap.size from ⟨by rw [← HQ.out]; exact HJ.out.row.lt, JB.out.2⟩)
        have rc8 : rowIs W8 q #[.slice ac nc cc] 25 := by
          rw [← hW8]
          exact (((RC8.out _ HB5.out.1).below HB6.out).below HW7.out.1).setRow_other _ (by have := HLT.out; omega)
        have hK8 : Kept (fun k => k = p) w5 W8 := by rw [← hW8]; exact (Kept.of_below (X := fun k => k = p) (chainP HB6.out HW7.out.1)).setRow (g := p) (.inl rfl) _
        have ho9 : W9.ownsRow 0 25 1 u6 Vs.length (Vs.map (·.1)) := by
          have h1 := ownsRow_kept HJ.out.own (Kept.of_below (X := fun _ => False) HB5.out.2) (fun _ _ h => h)
          have h2 := ownsRow_kept h1 hK8 (fun k hk e => by have := HJ.out.inn k hk; omega)
          exact ownsRow_kept h2 (Kept.of_below (X := fun _ => False) hb9) (fun _ _ h => h)
        have hv4 : Vs.length + 1 < 4294967296 := by have := HG.out; omega
        have HB9 := hid (And.intro hb9 hW8)
        clear hK8 hW8 hb9
        go_upto_region 16 with (first
          | (refine wpList_load_row rfl 25 _ rfl q rfl 25 _ (0, 0) _ rc8 Tryz.underlying25 rfl infoCfg ?_)
          | (at_builtin; go_must (refine wpList_append_gen W9 rfl _ _ 78 rfl 0 25 Tryz.underlying78 infoCfgA rfl (by decide) (by decide) (v := u6) rfl ho9 ⟨W8.heap.size, 0, none⟩ 1 1 [.slice ac nc cc] rfl (fun j u hj => by rw [addAt2, Nat.zero_add, r9.cell j]; simpa using hj) (fun u hu => by rw [List.mem_singleton] at hu; subst hu; rfl) rfl hv4 (Nat.zero_le _) ?_); intro v10 w10 ho10 hg10 hi10; obtain ⟨n10, hn10⟩ : ∃ n, Vs.length + 1 = n := ⟨_, rfl⟩; rw [hn10] at ho10; obtain ⟨a10, c10, rfl⟩ := ownsRow_formN ho10;  have HN10b := hid hn10; clear hn10))
        have hGL : (G : Int) + 1 = ((Vs.length : Nat) : Int) := by have := HG.out.1; omega
        have hJ10 := HJ.out.more (v' := .slice a10 n10 c10) hGL HL.out.1 (by have := HG.out; omega) HB5.out.2 HO6.out.1 HB6.out HW7.out.1 (by rw [HG.out.1, Nat.add_sub_cancel]; exact HO6.out.2) HC.out (HRC.out.1) FC.out (by rw [show Vs.length + 1 = n10 from HN10b.out]; exact ho10)
          ((by rw [HB9.out.2]; exact (Kept.of_below HB9.out.1).trans ((Kept.refl (fun k => u6.ownBlock = some k) W9).grown hg10 (fun k hk _ => hk)) (fun k h _ => h)))
          (fun k hk => (hi10 k hk).imp id (fun h => by
            have h1 := HB9.out.1.size
            have h2 : W7.heap.size = W8.heap.size := by rw [← HB9.out.2]; simp
            omega))
        obtain ⟨VL, hVL⟩ : ∃ v, Vs ++ [(Value.slice ac nc cc, LC)] = v := ⟨_, rfl⟩
        rw [hVL] at hJ10
        have hVl : VL.length = G + 2 := by rw [← hVL, List.length_append, HG.out.1]; rfl
        have HVL := hid hVl
        have HJ10 := hid hJ10
        have hlen : VL.length - 1 = G + 1 := by omega
        have rt10 := hJ10.row
        rw [hlen] at rt10
        clear hVL hVl
        have HLEN := hid hlen
        have hrr := hJ10.rules.readsR
        have hf10 := fewR_right hJ10.right hrr.2
        have cf := tableFind_any ((G + 1 : Nat) : Int) (.slice a6 n6 c6) L6 T0 w10 hrr.1 hf10.len hf10.heads
        have CF := hid cf
        clear hGL hJ10 ho10 hg10 hi10 ho9 rc8 r9 rt7 hW9 hv4 hlen hrr hf10 cf
        go_wp2_with (refine wpList_load_row rfl 52 _ rfl p rfl 52 _ (0, 0) _ rt10 Tryz.underlying52 rfl infoTable ?_)
        refine CF.out.mono ?_
        rintro e w11 ⟨hfp, hb11⟩
        have HB11 := hid hb11
        have hrt11 := hid (rt10.below hb11)
        clear hb11 rt10 CF
        cases hfd : L6.find? (fun x => x.1.host == T0) with
        | none =>
          rw [hfd] at hfp
          simp only at hfp
          subst hfp
          have HB12 := hid (show Below w11.heap.size w11 (w11.alloc (.cells zeroRule 66)) from below_alloc _ _)
          clear hfd
          go_wp2_with fail
          go_roundw
          case rel => exact ⟨k + 1, _, L6, VL, by go_num, hlt, HJ10.out.mono (chainP HB11.out HB12.out), by have := HVL.out; omega, by have := HL.out.2; have := HVL.out; have := HG.out.1; omega⟩
          case measure => simp [intOf]; omega
        | some x =>
          rw [hfd] at hfp
          obtain ⟨hv, rfl, hrh⟩ := hfp
          obtain ⟨ah, ch, eh⟩ := hrh.form
          rw [List.length_map] at eh
          obtain ⟨nh, hnh⟩ : ∃ n, x.1.heads.length = n := ⟨_, rfl⟩
          rw [hnh] at eh
          subst eh
          have hxm := List.mem_of_find?_eq_some hfd
          have hxh : x.1.host = T0 := by have := List.find?_some hfd; simpa using this
          obtain ⟨q12, hq12⟩ : ∃ q, w11.heap.size = q := ⟨_, rfl⟩
          obtain ⟨W12, hW12⟩ : ∃ W, w11.alloc (.cells (rowRz (x.1, .slice ah nh ch, x.2.2)) 66) = W := ⟨_, rfl⟩
          have hb12 : Below w11.heap.size w11 W12 := by rw [← hW12]; exact below_alloc _ _
          have r12 : rowIs W12 q12 (rowRz (x.1, .slice ah nh ch, x.2.2)) 66 := by rw [← hW12, ← hq12]; exact rowIs_new _ _ _
          have R12a : Hid (∀ W', Below W12.heap.size W12 W' → rowIs W' q12 (rowRz (x.1, .slice ah nh ch, x.2.2)) 66) := fun W' h => r12.below h
          have HXR0 := hid (And.intro (hrh.below hb12) (show x.1.heads.length ≤ 1000000 from (fewR_right HJ10.out.right HJ10.out.rules.readsR.2).heads _ hxm))
          have HB12 := hid (And.intro (chainP HB11.out hb12) hW12)
          have hts : ∀ g : Nat, g < VL.length → (x.2.2 ≤ (g : Int) ↔ SameS (VL.map fun x => x.2.map (·.1)) T0 x.1 g) := fun g hg => by
            have := HJ10.out.hist.since (x.1, x.2.2) (by unfold tT; exact List.mem_map.2 ⟨x, hxm, rfl⟩) g (by rw [List.length_map]; exact hg)
            simp only at this
            rw [hxh] at this
            exact this
          have HTS := hid hts
          have HQ12 := hid hq12
          have c0 : (w11.alloc (.cells (rowRz (x.1, .slice ah nh ch, x.2.2)) 66)).cell? ⟨p, 0, none⟩ = some (.int .i64 ((G + 1 : Nat) : Int)) := (hrt11.out.below (below_alloc _ _)).cell 0
          clear hfd hrh hnh hxm hxh hq12 hW12 hb12 r12 hts
          go_wp2_with fail
          change Code.wp _ _ _ _ (w11.alloc (.cells (rowRz (x.1, .slice ah nh ch, x.2.2)) 66))
          rw [HB12.out.2, HQ12.out]
          clear c0
          go_loopw [14, 15] (fun s14 s15 wr2 => ∃ (j : Nat) (b : Bool), s14 = .bool b ∧ s15 = .int .i64 ((j : Int) - 1) ∧ j ≤ G + 2 ∧ (b = true ↔ SameS (VL.map fun x => x.2.map (·.1)) T0 x.1 j) ∧ Below W12.heap.size W12 wr2) (fun _ z _ => ((intOf z) + 1).toNat)
          case atStart => exact ⟨G + 2, true, rfl, by congr 1; omega, Nat.le_refl _, ⟨fun _ => SameS.top (by rw [List.length_map]; exact Nat.le_of_eq HVL.out), fun _ => rfl⟩, Below.refl _ _⟩
          case round =>
            obtain ⟨j, b, rfl, rfl, hj, hbs, hb⟩ := hrel
            have HB13 := hid hb
            have HBS := hid hbs
            clear hbs
            by_cases hj0 : j = 0
            · have hji : ((j : Int) - 1) = -1 := by omega
              rw [hji]
              clear hj0 hb hji
              go_wp2_with fail
              go_roundw
              case rel => exact ⟨k + 1, _, L6, VL, by go_num, hlt, HJ10.out.mono (chainP HB12.out.1 HB13.out), by have := HVL.out; omega, by have := HL.out.2; have := HVL.out; have := HG.out.1; omega⟩
              case measure => simp [intOf]; omega
            obtain ⟨i, hi⟩ : ∃ i, j = i + 1 := ⟨j - 1, by omega⟩
            have hji : ((j : Int) - 1) = (i : Int) := by omega
            rw [hji]
            have HI := hid (And.intro hi (show i < G + 2 by omega))
            have d0 : decide ((0 : Int) ≤ (i : Int)) = true := decide_eq_true (by omega)
            have hi0 : (0 : Int) ≤ (i : Int) := by omega
            have hn10 : n10 = G + 2 := by have h1 := HN10b.out; have h2 := HG.out.1; omega
            have hiI : (i : Int) < (n10 : Int) := by omega
            have hiw : IntKind.i64.wrap ((i : Int) - 1) = (i : Int) - 1 := IntWalk.i64_in _ (by have := HI.out.2; have := HG.out.2; omega)
            obtain ⟨⟨Vi, Li⟩, hxi⟩ : ∃ x, VL[i]? = some x := by
              have := HVL.out
              exact ⟨VL[i]'(by omega), List.getElem?_eq_getElem (by omega)⟩
            have hea := HJ10.out.each _ (List.mem_of_getElem? hxi)
            simp only at hea
            obtain ⟨ai, ci, ei, -⟩ := hea.1.form
            obtain ⟨ni, hni⟩ : ∃ n, Li.length = n := ⟨_, rfl⟩
            rw [hni] at ei
            subst ei
            have hxim : (VL.map (·.1))[i]? = some (.slice ai ni ci) := by rw [List.getElem?_map, hxi]; rfl
            have hWs : (VL.map fun x => x.2.map (·.1))[i]? = some (Li.map (·.1)) := by rw [List.getElem?_map, hxi]; rfl
            have hbw := chainP (chainP HJ10.out.below HB12.out.1) hb
            obtain ⟨av2, cv2, e1, f1, -⟩ := (HJ10.out.own.reads).below (chainP HB12.out.1 hb)
            injection e1 with e1 e2 e3
            clear e2 e3
            subst e1
            obtain ⟨b2, o2, g2, i2⟩ := f1 i _ hxim
            subst g2
            have d2 : wr.cell? ⟨b2, o2 + i, none⟩ = some (.slice ai ni ci) := i2
            have cf := find_any (.slice ai ni ci) Li T0 wr (hea.1.below hbw) hea.2.len hea.2.heads
            have CF := hid cf
            have HWS := hid (And.intro hWs hea.2)
            have HJJ := hid (And.intro hj hji)
            clear f1 i2 hxi hea hni hxim hWs hbw cf hb hn10 hi hj0 hj hji
            go_wp2_with fail
            refine CF.out.mono ?_
            rintro e w13 hfp
            obtain ⟨sz, a13, n13, c13, ok, rfl, hrz, hzl, hfs, hb13⟩ := find_form hfp HWS.out.2
            obtain ⟨q16, hq16⟩ : ∃ q, w13.heap.size = q := ⟨_, rfl⟩
            obtain ⟨W16, hW16⟩ : ∃ W, w13.alloc (.cells (rowZ (.slice a13 n13 c13) sz) 64) = W := ⟨_, rfl⟩
            have hb16 : Below w13.heap.size w13 W16 := by rw [← hW16]; exact below_alloc _ _
            have r16 : rowIs W16 q16 (rowZ (.slice a13 n13 c13) sz) 64 := by rw [← hW16, ← hq16]; exact rowIs_new _ _ _
            have R16 : Hid (∀ W', Below W16.heap.size W16 W' → rowIs W' q16 (rowZ (.slice a13 n13 c13) sz) 64) := fun W' h => r16.below h
            have HB16 := hid (chainP (chainP HB13.out hb13) hb16)
            have R12 : Hid (∀ W', Below W16.heap.size W16 W' → rowIs W' q12 (rowRz (x.1, .slice ah nh ch, x.2.2)) 66) := fun W' h => R12a.out _ (chainP HB16.out h)
            have HSZ := hid (And.intro (hrz.below hb16) hzl)
            have HXR := hid (And.intro (HXR0.out.1.below HB16.out) HXR0.out.2)
            obtain ⟨nb, hnb⟩ : ∃ nb, (b && ok && alikeB sz x.1) = nb := ⟨_, rfl⟩
            have HNB := hid hnb
            have hnd : nb = decide (x.2.2 ≤ (i : Int)) := by
              rw [← hnb, Bool.eq_iff_iff, decide_eq_true_eq, HTS.out i (by have := HI.out.2; have := HVL.out; omega), SameS.step HWS.out.1, hfs, Bool.and_eq_true, Bool.and_eq_true, HBS.out, HI.out.1]
              cases ok
              · simp
              · simp only [if_true, and_true, Option.some.injEq, alikeB_iff]
            have HND := hid hnd
            have HNS := hid (show nb = true ↔ SameS (VL.map fun x => x.2.map (·.1)) T0 x.1 i by
              rw [hnd, decide_eq_true_eq]; exact HTS.out i (by have := HI.out.2; have := HVL.out; omega))
            have HW16 := hid (And.intro hW16 hq16)
            clear hfp hrz hzl hfs hb13 hq16 hW16 hb16 r16 hnb hnd d2 CF
            go_upto_region 23 with fail
            change Code.wp _ _ _ _ (w13.alloc (.cells (rowZ (.slice a13 n13 c13) sz) 64))
            rw [HW16.out.1, HW16.out.2]
            go_cut [14] from 64 to 93 (fun u W' => u = .bool nb ∧ Below W16.heap.size W16 W')
            case first =>
              cases b with
              | false =>
                refine wp_region_held_drew (S := fun w' => Below W16.heap.size W16 w') (by kernel_rfl) ((Below.refl _ _).drew) (fun hH => ?_)
                refine wpAnyH_take (i := 0) (v := ?_) rfl (by kernel_rfl) (by kernel_rfl) (by kernel_rfl) (fun _ _ _ h => h) (Or.inl ⟨by kernel_rfl, ?_⟩) hH ?_
                rotate_left
                · intro W hS
                  go_simp
                  first | done | with_reducible rfl
                simp only [Act.put, List.getElem_toArray, List.getElem_cons_succ, List.getElem_cons_zero, List.setIfInBounds_toArray, List.set_cons_zero, List.set_cons_succ]
                refine wpAnyH_take (i := 1) (v := ?_) rfl (by kernel_rfl) (by kernel_rfl) (by kernel_rfl) (fun _ _ _ h => h) (Or.inl ⟨by kernel_rfl, ?_⟩) hH ?_
                rotate_left
                · intro W hS
                  go_simp
                  first | done | with_reducible rfl
                simp only [Act.put, List.getElem_toArray, List.getElem_cons_succ, List.getElem_cons_zero, List.setIfInBounds_toArray, List.set_cons_zero, List.set_cons_succ]
                refine wpAnyH_take (i := 2) rfl (by kernel_rfl) (by kernel_rfl) (by kernel_rfl) (fun _ _ _ h => h) (Or.inr ⟨by kernel_rfl, rfl⟩) hH ?_
                simp only [Act.put, List.getElem_toArray, List.getElem_cons_succ, List.getElem_cons_zero, List.setIfInBounds_toArray, List.set_cons_zero, List.set_cons_succ]
                refine wpAnyH_take (i := 3) (v := ?_) rfl (by kernel_rfl) (by kernel_rfl) (by kernel_rfl) (fun _ _ _ h => h) (Or.inl ⟨by kernel_rfl, ?_⟩) hH ?_
                rotate_left
                · intro W hS
                  go_simp
                  first | done | with_reducible rfl
                simp only [Act.put, List.getElem_toArray, List.getElem_cons_succ, List.getElem_cons_zero, List.setIfInBounds_toArray, List.set_cons_zero, List.set_cons_succ]
                refine wpAnyH_take (i := 4) (v := ?_) rfl (by kernel_rfl) (by kernel_rfl) (by kernel_rfl) (fun _ _ _ h => h) (Or.inl ⟨by kernel_rfl, ?_⟩) hH ?_
                rotate_left
                · intro W hS
                  go_simp
                  first | done | with_reducible rfl
                simp only [Act.put, List.getElem_toArray, List.getElem_cons_succ, List.getElem_cons_zero, List.setIfInBounds_toArray, List.set_cons_zero, List.set_cons_succ]
                refine wpAnyH_take (i := 5) rfl (by kernel_rfl) (by kernel_rfl) (by kernel_rfl) (fun _ _ _ h => h) (Or.inr ⟨by kernel_rfl, rfl⟩) hH ?_
                simp only [Act.put, List.getElem_toArray, List.getElem_cons_succ, List.getElem_cons_zero, List.setIfInBounds_toArray, List.set_cons_zero, List.set_cons_succ]
                refine wpAnyH_take (i := 6) rfl (by kernel_rfl) (by kernel_rfl) (by kernel_rfl) (fun _ _ _ h => h) (Or.inr ⟨by kernel_rfl, rfl⟩) hH ?_
                simp only [Act.put, List.getElem_toArray, List.getElem_cons_succ, List.getElem_cons_zero, List.setIfInBounds_toArray, List.set_cons_zero, List.set_cons_succ]
                refine wpAnyH_take (i := 7) rfl (by kernel_rfl) (by kernel_rfl) (by kernel_rfl) (fun _ _ _ h => h) (Or.inr ⟨by kernel_rfl, rfl⟩) hH ?_
                simp only [Act.put, List.getElem_toArray, List.getElem_cons_succ, List.getElem_cons_zero, List.setIfInBounds_toArray, List.set_cons_zero, List.set_cons_succ]
                refine wpAnyH_take (i := 8) rfl (by kernel_rfl) (by kernel_rfl) (by kernel_rfl) (fun _ _ _ h => h) (Or.inr ⟨by kernel_rfl, rfl⟩) hH ?_
                simp only [Act.put, List.getElem_toArray, List.getElem_cons_succ, List.getElem_cons_zero, List.setIfInBounds_toArray, List.set_cons_zero, List.set_cons_succ]
                refine wpAnyH_take (i := 9) rfl (by kernel_rfl) (by kernel_rfl) (by kernel_rfl) (fun _ _ _ h => h) (Or.inr ⟨by kernel_rfl, rfl⟩) hH ?_
                simp only [Act.put, List.getElem_toArray, List.getElem_cons_succ, List.getElem_cons_zero, List.setIfInBounds_toArray, List.set_cons_zero, List.set_cons_succ]
                refine wpAnyH_take (i := 10) rfl (by kernel_rfl) (by kernel_rfl) (by kernel_rfl) (fun _ _ _ h => h) (Or.inr ⟨by kernel_rfl, rfl⟩) hH ?_
                simp only [Act.put, List.getElem_toArray, List.getElem_cons_succ, List.getElem_cons_zero, List.setIfInBounds_toArray, List.set_cons_zero, List.set_cons_succ]
                refine wpAnyH_take (i := 11) (v := ?_) rfl (by kernel_rfl) (by kernel_rfl) (by kernel_rfl) (fun _ _ _ h => h) (Or.inl ⟨by kernel_rfl, ?_⟩) hH ?_
                rotate_left
                · intro W hS
                  go_simp
                  first | done | with_reducible rfl
                simp only [Act.put, List.getElem_toArray, List.getElem_cons_succ, List.getElem_cons_zero, List.setIfInBounds_toArray, List.set_cons_zero, List.set_cons_succ]
                refine wpAnyH_take (i := 12) (v := ?_) rfl (by kernel_rfl) (by kernel_rfl) (by kernel_rfl) (fun _ _ _ h => h) (Or.inl ⟨by kernel_rfl, ?_⟩) hH ?_
                rotate_left
                · intro W hS
                  go_simp
                  first | done | with_reducible rfl
                simp only [Act.put, List.getElem_toArray, List.getElem_cons_succ, List.getElem_cons_zero, List.setIfInBounds_toArray, List.set_cons_zero, List.set_cons_succ]
                refine wpAnyH_done (by kernel_rfl) ?_ _
                go_wp2_with fail
                go_meet
                case rel => exact ⟨by rw [← HNB.out]; rfl, hH⟩
              | true =>
                cases ok with
                | false =>
                  refine wp_region_held_drew (S := fun w' => Below W16.heap.size W16 w') (by kernel_rfl) ((Below.refl _ _).drew) (fun hH => ?_)
                  refine wpAnyH_take (i := 0) (v := ?_) rfl (by kernel_rfl) (by kernel_rfl) (by kernel_rfl) (fun _ _ _ h => h) (Or.inl ⟨by kernel_rfl, ?_⟩) hH ?_
                  rotate_left
                  · intro W hS
                    go_simp
                    first | done | with_reducible rfl
                  simp only [Act.put, List.getElem_toArray, List.getElem_cons_succ, List.getElem_cons_zero, List.setIfInBounds_toArray, List.set_cons_zero, List.set_cons_succ]
                  refine wpAnyH_take (i := 1) (v := ?_) rfl (by kernel_rfl) (by kernel_rfl) (by kernel_rfl) (fun _ _ _ h => h) (Or.inl ⟨by kernel_rfl, ?_⟩) hH ?_
                  rotate_left
                  · intro W hS
                    go_simp
                    first | done | with_reducible rfl
                  simp only [Act.put, List.getElem_toArray, List.getElem_cons_succ, List.getElem_cons_zero, List.setIfInBounds_toArray, List.set_cons_zero, List.set_cons_succ]
                  refine wpAnyH_take (i := 2) (v := ?_) rfl (by kernel_rfl) (by kernel_rfl) (by kernel_rfl) (fun _ _ _ h => h) (Or.inl ⟨by kernel_rfl, ?_⟩) hH ?_
                  rotate_left
                  · intro W hS
                    go_simp
                    first | done | with_reducible rfl
                  simp only [Act.put, List.getElem_toArray, List.getElem_cons_succ, List.getElem_cons_zero, List.setIfInBounds_toArray, List.set_cons_zero, List.set_cons_succ]
                  refine wpAnyH_take (i := 3) (v := ?_) rfl (by kernel_rfl) (by kernel_rfl) (by kernel_rfl) (fun _ _ _ h => h) (Or.inl ⟨by kernel_rfl, ?_⟩) hH ?_
                  rotate_left
                  · intro W hS
                    go_simp
                    first | done | with_reducible rfl
                  simp only [Act.put, List.getElem_toArray, List.getElem_cons_succ, List.getElem_cons_zero, List.setIfInBounds_toArray, List.set_cons_zero, List.set_cons_succ]
                  refine wpAnyH_take (i := 4) (v := ?_) rfl (by kernel_rfl) (by kernel_rfl) (by kernel_rfl) (fun _ _ _ h => h) (Or.inl ⟨by kernel_rfl, ?_⟩) hH ?_
                  rotate_left
                  · intro W hS
                    go_simp
                    first | done | with_reducible rfl
                  simp only [Act.put, List.getElem_toArray, List.getElem_cons_succ, List.getElem_cons_zero, List.setIfInBounds_toArray, List.set_cons_zero, List.set_cons_succ]
                  refine wpAnyH_take (i := 5) rfl (by kernel_rfl) (by kernel_rfl) (by kernel_rfl) (fun _ _ _ h => h) (Or.inr ⟨by kernel_rfl, rfl⟩) hH ?_
                  simp only [Act.put, List.getElem_toArray, List.getElem_cons_succ, List.getElem_cons_zero, List.setIfInBounds_toArray, List.set_cons_zero, List.set_cons_succ]
                  refine wpAnyH_take (i := 6) rfl (by kernel_rfl) (by kernel_rfl) (by kernel_rfl) (fun _ _ _ h => h) (Or.inr ⟨by kernel_rfl, rfl⟩) hH ?_
                  simp only [Act.put, List.getElem_toArray, List.getElem_cons_succ, List.getElem_cons_zero, List.setIfInBounds_toArray, List.set_cons_zero, List.set_cons_succ]
                  refine wpAnyH_take (i := 7) rfl (by kernel_rfl) (by kernel_rfl) (by kernel_rfl) (fun _ _ _ h => h) (Or.inr ⟨by kernel_rfl, rfl⟩) hH ?_
                  simp only [Act.put, List.getElem_toArray, List.getElem_cons_succ, List.getElem_cons_zero, List.setIfInBounds_toArray, List.set_cons_zero, List.set_cons_succ]
                  refine wpAnyH_take (i := 8) rfl (by kernel_rfl) (by kernel_rfl) (by kernel_rfl) (fun _ _ _ h => h) (Or.inr ⟨by kernel_rfl, rfl⟩) hH ?_
                  simp only [Act.put, List.getElem_toArray, List.getElem_cons_succ, List.getElem_cons_zero, List.setIfInBounds_toArray, List.set_cons_zero, List.set_cons_succ]
                  refine wpAnyH_take (i := 9) rfl (by kernel_rfl) (by kernel_rfl) (by kernel_rfl) (fun _ _ _ h => h) (Or.inr ⟨by kernel_rfl, rfl⟩) hH ?_
                  simp only [Act.put, List.getElem_toArray, List.getElem_cons_succ, List.getElem_cons_zero, List.setIfInBounds_toArray, List.set_cons_zero, List.set_cons_succ]
                  refine wpAnyH_take (i := 10) rfl (by kernel_rfl) (by kernel_rfl) (by kernel_rfl) (fun _ _ _ h => h) (Or.inr ⟨by kernel_rfl, rfl⟩) hH ?_
                  simp only [Act.put, List.getElem_toArray, List.getElem_cons_succ, List.getElem_cons_zero, List.setIfInBounds_toArray, List.set_cons_zero, List.set_cons_succ]
                  refine wpAnyH_take (i := 11) (v := ?_) rfl (by kernel_rfl) (by kernel_rfl) (by kernel_rfl) (fun _ _ _ h => h) (Or.inl ⟨by kernel_rfl, ?_⟩) hH ?_
                  rotate_left
                  · intro W hS
                    go_simp
                    first | done | with_reducible rfl
                  simp only [Act.put, List.getElem_toArray, List.getElem_cons_succ, List.getElem_cons_zero, List.setIfInBounds_toArray, List.set_cons_zero, List.set_cons_succ]
                  refine wpAnyH_take (i := 12) (v := ?_) rfl (by kernel_rfl) (by kernel_rfl) (by kernel_rfl) (fun _ _ _ h => h) (Or.inl ⟨by kernel_rfl, ?_⟩) hH ?_
                  rotate_left
                  · intro W hS
                    go_simp
                    first | done | with_reducible rfl
                  simp only [Act.put, List.getElem_toArray, List.getElem_cons_succ, List.getElem_cons_zero, List.setIfInBounds_toArray, List.set_cons_zero, List.set_cons_succ]
                  refine wpAnyH_done (by kernel_rfl) ?_ _
                  go_wp2_with fail
                  go_meet
                  case rel => exact ⟨by rw [← HNB.out]; rfl, hH⟩
                | true =>
                  refine wp_region_held_drew (S := fun w' => Below W16.heap.size W16 w') (by kernel_rfl) ((Below.refl _ _).drew) (fun hH => ?_)
                  generalize W16.drew = w0 at hH ⊢
                  refine wpAnyH_take (i := 0) (v := ?_) rfl (by kernel_rfl) (by kernel_rfl) (by kernel_rfl) (fun _ _ _ h => h) (Or.inl ⟨by kernel_rfl, ?_⟩) hH ?_
                  rotate_left
                  · intro W hS
                    go_simp
                    first | done | with_reducible rfl
                  simp only [Act.put, List.getElem_toArray, List.getElem_cons_succ, List.getElem_cons_zero, List.setIfInBounds_toArray, List.set_cons_zero, List.set_cons_succ]
                  refine wpAnyH_take (i := 1) (v := ?_) rfl (by kernel_rfl) (by kernel_rfl) (by kernel_rfl) (fun _ _ _ h => h) (Or.inl ⟨by kernel_rfl, ?_⟩) hH ?_
                  rotate_left
                  · intro W hS
                    go_simp
                    first | done | with_reducible rfl
                  simp only [Act.put, List.getElem_toArray, List.getElem_cons_succ, List.getElem_cons_zero, List.setIfInBounds_toArray, List.set_cons_zero, List.set_cons_succ]
                  refine wpAnyH_take (i := 2) (v := ?_) rfl (by kernel_rfl) (by kernel_rfl) (by kernel_rfl) (fun _ _ _ h => h) (Or.inl ⟨by kernel_rfl, ?_⟩) hH ?_
                  rotate_left
                  · intro W hS
                    go_simp
                    first | done | with_reducible rfl
                  simp only [Act.put, List.getElem_toArray, List.getElem_cons_succ, List.getElem_cons_zero, List.setIfInBounds_toArray, List.set_cons_zero, List.set_cons_succ]
                  refine wpAnyH_take (i := 3) (v := ?_) rfl (by kernel_rfl) (by kernel_rfl) (by kernel_rfl) (fun _ _ _ h => h) (Or.inl ⟨by kernel_rfl, ?_⟩) hH ?_
                  rotate_left
                  · intro W hS
                    go_simp
                    first | done | with_reducible rfl
                  simp only [Act.put, List.getElem_toArray, List.getElem_cons_succ, List.getElem_cons_zero, List.setIfInBounds_toArray, List.set_cons_zero, List.set_cons_succ]
                  refine wpAnyH_take (i := 4) (v := ?_) rfl (by kernel_rfl) (by kernel_rfl) (by kernel_rfl) (fun _ _ _ h => h) (Or.inl ⟨by kernel_rfl, ?_⟩) hH ?_
                  rotate_left
                  · intro W hS
                    go_simp
                    first | done | with_reducible rfl
                  simp only [Act.put, List.getElem_toArray, List.getElem_cons_succ, List.getElem_cons_zero, List.setIfInBounds_toArray, List.set_cons_zero, List.set_cons_succ]
                  refine wpAnyH_take (i := 5) (v := .agg (rowZ (.slice a13 n13 c13) sz)) rfl (by kernel_rfl) (by kernel_rfl) (by kernel_rfl) (fun _ _ _ h => h) (Or.inl ⟨by kernel_rfl, ?_⟩) hH ?_
                  · intro W hS
                    exact load_gives rfl _ rfl (R16.out W hS) Tryz.underlying64 rfl infoSite
                  simp only [Act.put, List.getElem_toArray, List.getElem_cons_succ, List.getElem_cons_zero, List.setIfInBounds_toArray, List.set_cons_zero, List.set_cons_succ]
                  refine wpAnyH_take (i := 7) (v := ?_) rfl (by kernel_rfl) (by kernel_rfl) (by kernel_rfl) (fun _ _ _ h => h) (Or.inl ⟨by kernel_rfl, ?_⟩) hH ?_
                  rotate_left
                  · intro W hS
                    go_simp
                    first | done | with_reducible rfl
                  simp only [Act.put, List.getElem_toArray, List.getElem_cons_succ, List.getElem_cons_zero, List.setIfInBounds_toArray, List.set_cons_zero, List.set_cons_succ]
                  refine wpAnyH_take (i := 8) (v := .agg (rowZ (.slice ah nh ch) x.1)) rfl (by kernel_rfl) (by kernel_rfl) (by kernel_rfl) (fun _ _ _ h => h) (Or.inl ⟨by kernel_rfl, ?_⟩) hH ?_
                  · intro W hS
                    exact load_site rfl q12 rfl (R12.out W hS) Tryz.underlying64 rfl infoSite
                  simp only [Act.put, List.getElem_toArray, List.getElem_cons_succ, List.getElem_cons_zero, List.setIfInBounds_toArray, List.set_cons_zero, List.set_cons_succ]
                  refine wpAnyH_ready (rs := [6]) (by kernel_rfl) (by simp) ?_
                  refine AllReadyH.cons rfl (fun K hK => ?_) AllReadyH.nil
                  go_simp
                  refine (madeSite_any (.slice a13 n13 c13) sz _ ⟨_, _, _, rfl⟩).mono ?_
                  rintro e x6 ⟨rfl, hbx6⟩
                  refine hK.out _ _ (chainP hH hbx6) (fun hH => ?_)
                  clear hK K
                  try simp only [Act.put, List.getElem_toArray, List.getElem_cons_succ, List.getElem_cons_zero, List.setIfInBounds_toArray, List.set_cons_zero, List.set_cons_succ]
                  refine wpAnyH_ready (rs := [9]) (by kernel_rfl) (by simp) ?_
                  refine AllReadyH.cons rfl (fun K hK => ?_) AllReadyH.nil
                  go_simp
                  refine (madeSite_any (.slice ah nh ch) x.1 _ ⟨_, _, _, rfl⟩).mono ?_
                  rintro e x9 ⟨rfl, hbx9⟩
                  refine hK.out _ _ (chainP hH hbx9) (fun hH => ?_)
                  clear hK K
                  try simp only [Act.put, List.getElem_toArray, List.getElem_cons_succ, List.getElem_cons_zero, List.setIfInBounds_toArray, List.set_cons_zero, List.set_cons_succ]
                  refine wpAnyH_ready (rs := [10]) (by kernel_rfl) (by simp) ?_
                  refine AllReadyH.cons rfl (fun K hK => ?_) AllReadyH.nil
                  go_simp
                  refine (alike_any (.slice a13 n13 c13) (.slice ah nh ch) sz x.1 _ (HSZ.out.1.below hH) (HXR.out.1.below hH) HSZ.out.2 HXR.out.2).mono ?_
                  rintro e x10 ⟨rfl, hbx10⟩
                  refine hK.out _ _ (chainP hH hbx10) (fun hH => ?_)
                  clear hK K
                  try simp only [Act.put, List.getElem_toArray, List.getElem_cons_succ, List.getElem_cons_zero, List.setIfInBounds_toArray, List.set_cons_zero, List.set_cons_succ]
                  refine wpAnyH_take (i := 11) (v := ?_) rfl (by kernel_rfl) (by kernel_rfl) (by kernel_rfl) (fun _ _ _ h => h) (Or.inl ⟨by kernel_rfl, ?_⟩) hH ?_
                  rotate_left
                  · intro W hS
                    go_simp
                    first | done | with_reducible rfl
                  simp only [Act.put, List.getElem_toArray, List.getElem_cons_succ, List.getElem_cons_zero, List.setIfInBounds_toArray, List.set_cons_zero, List.set_cons_succ]
                  refine wpAnyH_take (i := 12) (v := ?_) rfl (by kernel_rfl) (by kernel_rfl) (by kernel_rfl) (fun _ _ _ h => h) (Or.inl ⟨by kernel_rfl, ?_⟩) hH ?_
                  rotate_left
                  · intro W hS
                    go_simp
                    first | done | with_reducible rfl
                  simp only [Act.put, List.getElem_toArray, List.getElem_cons_succ, List.getElem_cons_zero, List.setIfInBounds_toArray, List.set_cons_zero, List.set_cons_succ]
                  refine wpAnyH_done (by kernel_rfl) ?_ _
                  go_wp2_with fail
                  go_meet
                  case rel => exact ⟨by rw [← HNB.out]; rfl, hH⟩
            case rest =>
            rename World => w20
            obtain ⟨rfl, hb20⟩ := hcut
            have HB20 := hid hb20
            have rr := R12.out _ hb20
            have hnd := HND.out
            clear hb20
            go_wp2_with (refine wpList_load_row rfl 66 _ rfl q12 rfl 66 _ (0, 0) _ rr Tryz.underlying66 rfl infoRule ?_)
            refine (serves_any (.slice ah nh ch) x (i : Int) w20).mono ?_
            rintro e w21 ⟨rfl, hb21⟩
            rw [← hnd]
            have HB21 := hid (chainP (chainP HB16.out HB20.out) hb21)
            have znb : (nb != nb) = false := by simp
            clear hb21 rr hnd
            go_wp2_with fail
            go_roundw
            case rel => exact ⟨i, nb, rfl, rfl, by have := HI.out.2; omega, HNS.out, HB21.out⟩
            case measure => simp [intOf] <;> (have := HJJ.out.2; omega)
      · have HB7 := hid (show Below w6.heap.size w6 (w6.alloc (.cells zeroTab 52)) from below_alloc _ _)
        clear hC rt rc
        go_wp2_with fail
        go_roundw
        case rel => exact ⟨k + 1, tv, T, Vs, by go_num, hlt, HJ.out.mono (chainP (chainP HB5.out.2 HB6.out) HB7.out), HL.out.1, by have := HL.out.2; omega⟩
        case measure => simp [intOf]; omega
    · have hkI : ¬ (k : Int) < (n : Int) := by omega
      obtain ⟨as6, cs6, e6⟩ := ownsRow_formN hJ.own
      subst e6
      have c0 : wr.cell? ⟨p, 0, none⟩ = some (.int .i64 ((Vs.length - 1 : Nat) : Int)) := hJ.row.cell 0
      obtain ⟨G, hG⟩ : ∃ G, Vs.length = G + 1 := ⟨Vs.length - 1, by omega⟩
      obtain ⟨nv, hnv⟩ : ∃ n, Vs.length = n := ⟨_, rfl⟩
      have hG2 : Vs.length - 1 = G := by omega
      rw [hG2] at c0
      have hw1 : IntKind.i64.wrap ((nv : Int) - 1) = (G : Int) := by rw [IntWalk.i64_in _ (by have := HN10.out; omega)]; omega
      rw [hnv]
      clear hG hnv hG2 hJ hl1 hl2 hlt hk
      go_wp2_with fail
      go_ret
      exact ⟨by simp, HJ.out.below⟩
end Go.Proofs.YtenijpcjemdhfaaGreatDoor
