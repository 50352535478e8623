/-
  Several texts in one: PlanD, PlanE, Ref10B.
-/
import Derived.Test.YtenijpcjemdhfaaGreatDoorP10d07
import Derived.Test.YtenijpcjemdhfaaGreatDoorIter
import Derived.Test.YtenijpcjemdhfaaGreatDoorP10d05
import Derived.Test.YtenijpcjemdhfaaGreatDoorHeldA
/-
  Contracts of package plan: rising, Diff.
-/
namespace Go.Pantry
open Go.RowKit
def actCells (L : List ActM) : List Value := L.flatMap fun a => [.int .i64 (a.1 : Int), strV a.2]
theorem actCells_len : ∀ L : List ActM, (actCells L).length = 2 * L.length
  | [] => rfl
  | a :: L => by
    have := actCells_len L
    unfold actCells at this ⊢
    rw [List.flatMap_cons, List.length_append, this, List.length_cons]
    simp; omega
theorem actCells_append (A B : List ActM) : actCells (A ++ B) = actCells A ++ actCells B := by simp [actCells]
theorem actCells_at : ∀ (L : List ActM) (j : Nat) (a : ActM), L[j]? = some a → (actCells L)[j * 2]? = some (.int .i64 (a.1 : Int)) ∧ (actCells L)[j * 2 + 1]? = some (strV a.2)
  | [], j, a, h => by cases h
  | b :: L, 0, a, h => by cases h; exact ⟨rfl, rfl⟩
  | b :: L, j + 1, a, h => by
    obtain ⟨h1, h2⟩ := actCells_at L j a (by simpa using h)
    rw [show (j + 1) * 2 = j * 2 + 2 by omega]
    exact ⟨h1, h2⟩
/-- v is a slice that reads as these actions -/
def ReadsA (w : World) (v : Value) (L : List ActM) : Prop :=
  ∃ ao cap, v = .slice ao L.length cap ∧ ∀ (j : Nat) a, L[j]? = some a → ∃ b off, ao = some ⟨b, off, none⟩ ∧ w.cell? ⟨b, off + j * 2, none⟩ = some (.int .i64 (a.1 : Int)) ∧ w.cell? ⟨b, off + j * 2 + 1, none⟩ = some (strV a.2)
theorem ReadsA.below {w w' : World} {v : Value} {L : List ActM} (h : ReadsA w v L) (hb : Below w.heap.size w w') : ReadsA w' v L := by
  obtain ⟨ao, cap, hv, hc⟩ := h
  refine ⟨ao, cap, hv, fun j a hj => ?_⟩
  obtain ⟨b, off, ha, h1, h2⟩ := hc j a hj
  exact ⟨b, off, ha, kept h1 hb, kept h2 hb⟩
theorem ReadsA.form {w : World} {v : Value} {L : List ActM} (h : ReadsA w v L) : ∃ ao cap, v = .slice ao L.length cap := let ⟨ao, cap, hv, _⟩ := h; ⟨ao, cap, hv⟩
theorem ReadsA.at_ {w : World} {ao : Option Addr} {n cap : Nat} {L : List ActM} (h : ReadsA w (.slice ao n cap) L) {j : Nat} {a : ActM} (hj : L[j]? = some a) :
    ∃ b off, ao = some ⟨b, off, none⟩ ∧ w.cell? ⟨b, off + j * 2, none⟩ = some (.int .i64 (a.1 : Int)) ∧ w.cell? ⟨b, off + j * 2 + 1, none⟩ = some (strV a.2) := by
  obtain ⟨ao', cap', hv, hc⟩ := h
  cases hv
  exact hc j a hj
theorem ReadsA.nil (w : World) (cap : Nat) : ReadsA w (.slice none 0 cap) [] := ⟨none, cap, rfl, fun j a h => by cases h⟩
end Go.Pantry
namespace Go
open Go.RowKit Go.Pantry
theorem World.ownsRow.readsA {w : World} {B : Nat} {e : TypeId} {v : Value} {n : Nat} {L : List ActM} (h : w.ownsRow B e 2 v n (actCells L)) : n = L.length ∧ ReadsA w v L := by
  have hl : n = L.length := by have := h.1; rw [actCells_len] at this; omega
  subst hl
  refine ⟨rfl, ?_⟩
  rcases h.2 with ⟨rfl, hn⟩ | ⟨g, cap, cur, rfl, hb, hg, hnc, hcm, hcs, htake⟩
  · exact ⟨none, 0, by rw [hn], fun j p hj => by have : j < L.length := (List.getElem?_eq_some_iff.1 hj).1; omega⟩
  · refine ⟨some ⟨g, 0, none⟩, cap, rfl, fun j p hj => ⟨g, 0, rfl, ?_⟩⟩
    obtain ⟨a, b⟩ := actCells_at L j p hj
    have hadd : ∀ i : Nat, (⟨g, 0, none⟩ : Addr).add i = ⟨g, 0 + i, none⟩ := fun i => by unfold Addr.add; split <;> simp_all
    have h1 := h.cells (g := g) rfl _ _ a
    have h2 := h.cells (g := g) rfl _ _ b
    rw [hadd] at h1 h2
    exact ⟨h1, by rw [Nat.add_assoc]; exact h2⟩
end Go
namespace Go.Pantry
open Go.RowKit
/-- append(out, a), out nil or the call's own, a an action. -/
theorem wpList_append_act {P : Program} {ops : Array Oper} {rest : List Oper} {o : Oper} {a : Act} {Q : Exit → Act → World → Prop} (w : World) (hgd : o.guard = none) (s x : Operand) (t : TypeId)
    (ho : o.op = .call { callee := .builtin .append, args := #[s, x], argTypes := #[t, t] })
    (B : Nat) (e : TypeId) {z : Value} {bytes : Nat} (ht : P.underlying t = some (.slice e)) (hi : (P.info? e).map (fun i => (i.zero, i.size, i.bytes)) = some (some z, 2, bytes)) (hzs : z.cells.size = 2) (hby : bytes ≤ 4096)
    {v : Value} {n : Nat} {L : List ActM} (hs : a.eval s = v) (hown : w.ownsRow B e 2 v n (actCells L)) (p : ActM)
    {g : Nat} (hx : a.eval x = .slice (some ⟨g, 0, none⟩) 1 1) (hgs : g = w.heap.size) (hn : n < 4294967296) (hB : B ≤ w.heap.size)
    (h : ∀ v' w', w'.ownsRow B e 2 v' (n + 1) (actCells (L ++ [p])) → Below B w w' → wpList P ops Q rest (a.put o.dst v') w') :
    wpList P ops Q (o :: rest) a (w.alloc (.cells #[.int .i64 (p.1 : Int), strV p.2] e)) := by
  subst hgs
  obtain ⟨i0, h1, h2, h3, h4⟩ := info_parts hi
  refine wpList_append_own _ hgd s x t ho B e i0 z 2 bytes ht h1 h2 h3 h4 hzs (by decide) v n _ hs (hown.alloc _) ⟨w.heap.size, 0, none⟩ 1 1 [.int .i64 (p.1 : Int), strV p.2] hx rfl ?_ ?_ ?_ ?_ ?_ ?_
  · intro j y hj
    have e0 : (⟨w.heap.size, 0, none⟩ : Addr).add j = ⟨w.heap.size, j, none⟩ := by unfold Addr.add; split <;> simp_all
    rw [e0, World.cell?_alloc_at _ _ _ _ rfl]
    simpa using hj
  · intro y hy
    rcases List.mem_cons.1 hy with rfl | hy
    · rfl
    · rcases List.mem_cons.1 hy with rfl | hy
      · rfl
      · cases hy
  · unfold maxLen; omega
  · calc (n + 1) * bytes ≤ 4294967296 * 4096 := Nat.mul_le_mul (by omega) hby
      _ ≤ 140737488355328 := by decide
  · simp; omega
  · intro v' w' ho' hg _
    have hg' : w.grownBy w' v.ownBlock := ⟨hg.os, hg.tape, hg.output, Nat.le_trans (by simp) hg.size, fun k hk hne => (hg.block k (by simp; omega) hne).trans (Below.heap_alloc _ _ _ hk)⟩
    refine h v' w' ?_ ((Below.refl B w).grown hg' hB (fun k hk => (hown.lt k hk).1))
    rw [actCells_append]
    exact ho'
/-- the hosts that f tells of, rising -/
def Risen (f : List UInt8 → Option Nat) (hosts : List (List UInt8)) : Prop := hosts.Pairwise (· < ·) ∧ ∀ u, u ∈ hosts ↔ (f u).isSome = true
theorem risen_acts {A B : List SiteZ} {hosts : List (List UInt8)} (h : Risen (actF A B) hosts) : (hosts.map fun u => (((actF A B u).getD 0, u) : ActM)) = actsP A B := by
  have e : hosts = hostsP A B := sorted_ext h.1 (hostsP_sorted A B) fun u => by rw [h.2 u, actF_some]
  unfold actsP
  rw [e]
  refine List.map_congr_left fun u hu => ?_
  rw [actF_get ((actF_some A B u).2 hu)]
theorem keys_risen {D : DataW Unit} {f : List UInt8 → Option Nat} {ss : List (List UInt8)} {es : List (Lit × DataW Unit)} (hD : D = .map es) (hp : es.Pairwise (fun p q => p.1 ≠ q.1)) (hk : ∀ p ∈ es, ∃ x, p.1 = .string x)
    (hat : ∀ u z, D.atKey (.string u) z = match f u with | none => z | some k => actD k u) (hs : ss.Perm (strKeys D)) : Risen f (ss.mergeSort leB) := by
  subst hD
  have hnd : (strKeys (.map es)).Nodup := by
    show (es.map fun p => strOf p.1).Nodup
    refine List.pairwise_map.2 (hp.imp_of_mem fun {p q} hp' hq' hne e => hne ?_)
    obtain ⟨a, ha⟩ := hk p hp'
    obtain ⟨b, hb⟩ := hk q hq'
    rw [ha, hb] at e ⊢
    exact congrArg _ e
  have hmem : ∀ x, x ∈ strKeys (.map es) ↔ Maps.has (.map es) (.string x) = true := fun x => by
    rw [Maps.has_eq, List.any_eq_true]
    show x ∈ (es.map fun p => strOf p.1) ↔ _
    rw [List.mem_map]
    constructor
    · rintro ⟨p, hp', rfl⟩
      obtain ⟨a, ha⟩ := hk p hp'
      exact ⟨p, hp', by rw [ha]; simp [Lit.sameKey, strOf]⟩
    · rintro ⟨p, hp', hs⟩
      obtain ⟨a, ha⟩ := hk p hp'
      rw [ha] at hs
      exact ⟨p, hp', by rw [ha]; simpa [Lit.sameKey, strOf] using hs⟩
  refine ⟨mergeSort_sorted (hs.nodup_iff.2 hnd), fun u => ?_⟩
  rw [(List.mergeSort_perm ss leB).mem_iff, hs.mem_iff, hmem u]
  cases hf : f u with
  | none =>
    rw [Maps.has_false_of_atKey (D := .map es) (k := .string u) (fun z => by rw [hat u z, hf])]
    simp
  | some k =>
    rw [Maps.has_true_of_atKey (D := .map es) (k := .string u) (y := actD k u) (fun z => by rw [hat u z, hf])]
    simp
end Go.Pantry
namespace Go.Proofs.YtenijpcjemdhfaaGreatDoor
open Go.RowKit Go.Pantry

theorem infoAct : (Tryz.prog.info? 48).map (fun i => (i.zero, i.size, i.bytes)) = some (some (.agg #[.int .i64 0, .string ⟨#[]⟩]), 2, 24) := by kernel_rfl
def RisePost (w : World) (f : List UInt8 → Option Nat) (e : Ending) (w' : World) : Prop :=
  ∃ v hosts, e = .returned v ∧ Risen f hosts ∧ w'.ownsRow w.heap.size 48 2 v hosts.length (actCells (hosts.map fun u => ((f u).getD 0, u))) ∧ Below w.heap.size w w'
set_option maxRecDepth 100000 in
set_option maxHeartbeats 4000000 in
theorem rising_any (b nn : Nat) (f : List UInt8 → Option Nat) (w : World) (h : ActsAt w b nn f) (hn : nn ≤ 2000000) :
    Calls Tryz.prog 43 #[.map (some b)] w (RisePost w f) := by
  obtain ⟨D, hown, hmap, hat⟩ := h
  obtain ⟨es, hD, hpw, -⟩ := hown.entries lawS
  obtain ⟨es', hD', hko⟩ := hown.keysOf
  have hee : es' = es := by rw [hD] at hD'; injection hD' with e; exact e.symm
  subst hee
  have hks : ∀ p ∈ es', ∃ x, p.1 = .string x := fun p hp => by
    obtain ⟨key, hkey⟩ := hko p hp
    obtain ⟨x, _, hx, _⟩ := Maps.keyOf_str Tryz.underlying9 hkey
    exact ⟨x, hx⟩
  have hsz := hown.size_le
  have CK := hid (sortedKeys_any b nn D actR w hown (by unfold maxLen; omega) (by omega))
  have HD := hid (And.intro hD (And.intro hpw (And.intro hks (And.intro hat hown))))
  have HKL : Hid (∀ x ∈ strKeys D, x.length ≤ 9223372036854775807) := by
    intro x hx
    rw [hD] at hx
    obtain ⟨p, hp, rfl⟩ := List.mem_map.1 hx
    obtain ⟨key, hkey⟩ := hko p hp
    obtain ⟨y, _, hy, hyl⟩ := Maps.keyOf_str Tryz.underlying9 hkey
    rw [hy]
    exact hyl
  have HL := hid (show (strKeys D).length ≤ nn by
    rw [hD] at hsz ⊢
    show (es'.map fun p => strOf p.1).length ≤ nn
    rw [List.length_map]
    exact hsz)
  clear hown hmap hat hD hpw hD' hko hks hsz
  go_enter Tryz.func43, Tryz.ntmps43
  go_wp2_with fail
  refine (mapsKeys_any (some b) w).mono ?_
  rintro e w1 ⟨rfl, rfl⟩
  go_wp2_with fail
  refine CK.out.mono ?_
  rintro e w2 ⟨v, ss, rfl, hss, hrow, -, hb2⟩
  have hbw : Below w.heap.size w w2 := chainP (below_alloc w (.cells #[.map (some b)] 94)) hb2
  have hrs := keys_risen HD.out.1 HD.out.2.1 HD.out.2.2.1 HD.out.2.2.2.1 hss
  obtain ⟨hosts, hh⟩ : ∃ hosts, ss.mergeSort leB = hosts := ⟨_, rfl⟩
  rw [hh] at hrs
  have hlen : hosts.length = ss.length := by rw [← hh, List.length_mergeSort]
  have hrow' : w2.ownsRow (w.alloc (.cells #[.map (some b)] 94)).heap.size 9 1 v hosts.length (hosts.map strV) := by
    rw [hlen, ← hh]; exact hrow
  have hrd := hrow'.reads
  obtain ⟨ao, cap, hfv⟩ := hrd.form
  obtain ⟨n, hnn⟩ : ∃ n, hosts.length = n := ⟨_, rfl⟩
  rw [List.length_map, hnn] at hfv
  subst hfv
  have hnb : n ≤ 2000000 := by
    have h1 := hss.length_eq
    have h2 := HL.out
    omega
  have hkl : ∀ x ∈ hosts, x.length ≤ 9223372036854775807 := fun x hx => by
    rw [← hh, (List.mergeSort_perm ss leB).mem_iff, hss.mem_iff] at hx
    exact HKL.out x hx
  have HW2 := hid hbw
  have HR := hid (And.intro hrd (And.intro hrs (And.intro hnn hkl)))
  clear hss hrow hb2 hbw hrs hh hlen hrow' hrd hnn hkl
  go_wp2_with fail
  go_loopw [3, 10] (fun u z wr => ∃ (k : Nat), z = .int .i64 (k : Int) ∧ k ≤ n ∧ wr.ownsRow w2.heap.size 48 2 u k (actCells ((hosts.take k).map fun u => ((f u).getD 0, u))) ∧ Below w2.heap.size w2 wr) (fun _ z _ => n - (intOf z).toNat)
  case atStart => exact ⟨0, rfl, Nat.zero_le _, World.ownsRow_nil _ _ _ _, Below.refl _ _⟩
  case round =>
    obtain ⟨k, rfl, hk, ho, hb⟩ := hrel
    have hbw := chainP HW2.out hb
    have HB := hid (And.intro hb hbw)
    by_cases hlt : k < n
    · obtain ⟨x, hx⟩ : ∃ x, hosts[k]? = some x := by
        have := HR.out.2.2.1
        exact ⟨hosts[k]'(by omega), List.getElem?_eq_getElem (by omega)⟩
      have hxm : (hosts.map strV)[k]? = some (strV x) := by rw [List.getElem?_map, hx]; rfl
      obtain ⟨a1, c1', e1, f1, hz1⟩ := HR.out.1.below hb
      injection e1 with e1 k1 k2
      clear k1 k2
      subst e1
      obtain ⟨b2, o2, g2, i2⟩ := f1 k _ hxm
      subst g2
      have hkI : (k : Int) < (n : Int) := by omega
      have hk0 : (0 : Int) ≤ (k : Int) := by omega
      have hkw : IntKind.i64.wrap ((k : Int) + 1) = (k : Int) + 1 := IntWalk.i64_in _ (by omega)
      have hxin := List.mem_of_getElem? hx
      obtain ⟨q, hq⟩ := Option.isSome_iff_exists.1 ((HR.out.2.1.2 x).1 hxin)
      have hkey : keyOf Tryz.prog 9 (strV x) = some (.string x) := WideMaps.keyOf_string_mk Tryz.underlying9 (s := ⟨x.toArray⟩) (by rw [szL]; exact HR.out.2.2.2 x hxin)
      have hown := HD.out.2.2.2.2
      have hownr : wr.ownsMap Tryz.prog 9 actR b nn D := by
        obtain ⟨es2, clock, a1, a2, a3, a4⟩ := hown
        exact ⟨es2, clock, (hbw.block b (Array.getElem?_eq_some_iff.1 a1).1).trans a1, a2, a3, a4⟩
      obtain ⟨rv, ps, hrun, hv⟩ := hownr.lookup lawS Tryz.underlying94 (zeroAct wr) (show actR (.agg #[.int .i64 0, .string ⟨#[]⟩]) = some (.agg [.lit (.int .i64 0), .lit (.string [])], []) from rfl) hkey
      rw [HD.out.2.2.2.1 x, hq] at hv
      obtain rfl := actR_inv hv
      have hgd : (f x).getD 0 = q := by rw [hq]; rfl
      have HT := hid (show (hosts.take (k + 1)).map (fun u => (((f u).getD 0, u) : ActM)) = (hosts.take k).map (fun u => (((f u).getD 0, u) : ActM)) ++ [(q, x)] by
        rw [List.take_add_one, hx, List.map_append]
        simp [hgd])
      clear hb hbw f1 hx hxm hz1 hxin hq hkey hown hownr hv hgd
      have hsz : w2.heap.size ≤ wr.heap.size := HB.out.1.size
      go_wp2_with ((at_builtin; go_must (refine wpList_append_act _ rfl _ _ 40 rfl w2.heap.size 48 Tryz.underlying40 infoAct rfl (by decide) rfl ho (q, x) rfl (by first | rfl | simp) (by omega) hsz ?_); intro v' w4 hown4 hb4))
      have HO4 := hid hown4
      have HB5 := hid (HB.out.1.trans hb4)
      clear hown4 hb4
      go_roundw
      case rel => exact ⟨k + 1, by go_num, hlt, by rw [HT.out]; exact HO4.out, HB5.out⟩
      case measure => simp [intOf]; omega
    · have e0 : hosts.take k = hosts := List.take_of_length_le (by have := HR.out.2.2.1; omega)
      have hkn : n = k := by omega
      rw [e0, ← hkn] at ho
      have HO := hid ho
      clear ho hb hbw e0
      go_wp2_with fail
      go_ret
      exact ⟨_, hosts, rfl, HR.out.2.1, by rw [HR.out.2.2.1]; exact HO.out.base HW2.out.size, HB.out.2⟩
end Go.Proofs.YtenijpcjemdhfaaGreatDoor
/-
  Contracts of package plan: Diff.
-/
namespace Go.Proofs.YtenijpcjemdhfaaGreatDoor
open Go.RowKit Go.Pantry

theorem nodup_right {L : List SiteZ} (h : rightC L = true) : (L.map (·.host)).Nodup := (rightC_iff.1 h).2.2
/-- the actions from a config to another one, or none -/
def DiffPost (w : World) (A B : List SiteZ) (e : Ending) (w' : World) : Prop :=
  (if rightC A && rightC B then ∃ v, e = .returned (.tuple #[v, .int .i64 0]) ∧ w'.ownsRow w.heap.size 48 2 v (actsP A B).length (actCells (actsP A B))
    else e = .returned (.tuple #[.slice none 0 0, .int .i64 10])) ∧ Below w.heap.size w w'
theorem risen_len {f : List UInt8 → Option Nat} {A B : List SiteZ} {hosts : List (List UInt8)} (h : Risen f hosts) (e : f = actF A B) : hosts.length = (actsP A B).length := by
  subst e
  rw [← risen_acts h, List.length_map]
set_option maxRecDepth 100000 in
set_option maxHeartbeats 4000000 in
theorem diff_any (vA vB : Value) (LA LB : List (SiteZ × Value)) (w : World) (hA : ReadsP w vA LA) (hB : ReadsP w vB LB) (fA : Few LA) (fB : Few LB) (hm : MaxOk w) (ht : Tab10 w) :
    Calls Tryz.prog 17 #[.agg #[vA], .agg #[vB]] w (DiffPost w (LA.map (·.1)) (LB.map (·.1))) := by
  obtain ⟨ao, c, e1, f1⟩ := hA.form
  obtain ⟨bo, d, e2, f2⟩ := hB.form
  obtain ⟨n, hln⟩ : ∃ n, LA.length = n := ⟨_, rfl⟩
  obtain ⟨m, hlm⟩ : ∃ n, LB.length = n := ⟨_, rfl⟩
  rw [hln] at e1
  rw [hlm] at e2
  subst e1 e2
  obtain ⟨W, hW⟩ : ∃ W, (w.alloc (.cells #[.slice ao n c] 25)).alloc (.cells #[.slice bo m d] 25) = W := ⟨_, rfl⟩
  have hb : Below w.heap.size w W := by rw [← hW]; exact chainP (below_alloc _ _) (below_alloc _ _)
  have q1 : rowIs W w.heap.size #[.slice ao n c] 25 := by rw [← hW]; exact (rowIs_new _ _ _).below (below_alloc _ _)
  have q2 : rowIs W (w.heap.size + 1) #[.slice bo m d] 25 := by rw [← hW]; exact rowIs_new_at _ _ _ _ (by simp)
  have j1 : W.cell? ⟨w.heap.size, 0, none⟩ = some (.slice ao n c) := q1.cell 0
  have HA := hid (And.intro hA fA)
  have HB := hid (And.intro hB fB)
  have HM := hid (And.intro hm ht)
  have HQ := hid (And.intro q1 (And.intro q2 (And.intro hb (And.intro hln hlm))))
  have ca := configRight_any (.slice ao n c) LA W (hA.below hb) fA (hm.below hb) (ht.below hb)
  obtain ⟨qa, hqa⟩ : ∃ q, rightC (LA.map (·.1)) = q := ⟨_, rfl⟩
  obtain ⟨qb, hqb⟩ : ∃ q, rightC (LB.map (·.1)) = q := ⟨_, rfl⟩
  rw [hqa] at ca
  have CA := hid ca
  have HQA := hid (And.intro hqa hqb)
  clear hA hB fA fB f1 f2 hln hlm hb q1 q2 ca hqa hqb hm ht
  go_enter Tryz.func17, Tryz.ntmps17
  go_wp2_with fail
  refine CA.out.mono ?_
  rintro e w1 ⟨rfl, hb1⟩
  have HB1 := hid (chainP HQ.out.2.2.1 hb1)
  have HBB := hid hb1
  clear j1 hW
  cases qa
  · go_wp2_with fail
    go_ret2
    exact ⟨by rw [HQA.out.1]; rfl, HB1.out⟩
  have j2 : w1.cell? ⟨w.heap.size + 1, 0, none⟩ = some (.slice bo m d) := (HQ.out.2.1.below hb1).cell 0
  have cb := configRight_any (.slice bo m d) LB w1 (HB.out.1.below HB1.out) HB.out.2 (HM.out.1.below HB1.out) (HM.out.2.below HB1.out)
  rw [HQA.out.2] at cb
  have CB := hid cb
  clear hb1 cb
  go_wp2_with fail
  refine CB.out.mono ?_
  rintro e w2 ⟨rfl, hb2⟩
  have HB2 := hid (And.intro (chainP HB1.out hb2) (chainP HBB.out hb2))
  clear j2 hb2
  cases qb
  · go_wp2_with fail
    go_ret2
    exact ⟨by rw [HQA.out.1, HQA.out.2]; rfl, HB2.out.1⟩
  have j1 : w2.cell? ⟨w.heap.size, 0, none⟩ = some (.slice ao n c) := (HQ.out.1.below HB2.out.2).cell 0
  have j2 : w2.cell? ⟨w.heap.size + 1, 0, none⟩ = some (.slice bo m d) := (HQ.out.2.1.below HB2.out.2).cell 0
  have cx := actions_any (.slice ao n c) (.slice bo m d) LA LB w2 (HA.out.1.below HB2.out.1) (HB.out.1.below HB2.out.1) HA.out.2 HB.out.2 (nodup_right HQA.out.2)
  have CX := hid cx
  clear cx
  go_wp2_with fail
  refine CX.out.mono ?_
  rintro e w3 ⟨b, rfl, hact, hb3⟩
  have HB3 := hid (chainP HB2.out.1 hb3)
  have HACT := hid hact
  have hl := HQ.out.2.2.2
  have h1 := HA.out.2.len
  have h2 := HB.out.2.len
  have CR := hid (rising_any b _ _ w3 hact (by omega))
  clear j1 j2 hact hb3 hl h1 h2
  go_wp2_with fail
  refine CR.out.mono ?_
  rintro e w4 ⟨v, hosts, rfl, hrs, hown, hb4⟩
  have HB4 := hid (chainP HB3.out hb4)
  have HO := hid (show w4.ownsRow w.heap.size 48 2 v (actsP (LA.map (·.1)) (LB.map (·.1))).length (actCells (actsP (LA.map (·.1)) (LB.map (·.1)))) by
    have h := hown.base HB3.out.size
    rw [risen_acts hrs] at h
    rw [← risen_len hrs rfl]
    exact h)
  clear hrs hown hb4
  go_wp2_with fail
  go_ret2
  refine ⟨?_, HB4.out⟩
  rw [HQA.out.1, HQA.out.2]
  exact ⟨v, rfl, HO.out⟩
end Go.Proofs.YtenijpcjemdhfaaGreatDoor
/-
  The document's answers of layer 10: Diff.
-/
namespace Go.Pantry
open Go.RowKit
theorem foldRise_len : ∀ (hs l : List (List UInt8)), (hs.foldl riseL l).length ≤ l.length + hs.length
  | [], l => by simp
  | h :: hs, l => by
    rw [List.foldl_cons]
    have h1 := foldRise_len hs (riseL l h)
    have h2 := riseL_len l h
    simp; omega
theorem actsP_take {A B : List SiteZ} {k : Nat} {u : List UInt8} (h : (hostsP A B)[k]? = some u) : (actsP A B).take (k + 1) = (actsP A B).take k ++ [(kindD A B u, u)] := by
  unfold actsP
  rw [List.take_add_one, List.getElem?_map, h]
  rfl
end Go.Pantry
namespace Go.Proofs.YtenijpcjemdhfaaGreatDoor
open Go.RowKit Go.Pantry

theorem infoRefAct : (Tryz.prog.info? 96).map (fun i => (i.zero, i.size, i.bytes)) = some (some (.agg #[.int .i64 0, .string ⟨#[]⟩]), 2, 24) := by kernel_rfl
set_option maxRecDepth 100000 in
set_option maxHeartbeats 8000000 in
theorem refDiff_any (vA vB : Value) (LA LB : List (SiteZ × Value)) (w : World) (hA : ReadsP w vA LA) (hB : ReadsP w vB LB) (fA : Few LA) (fB : Few LB) (hs : LA.length + LB.length ≤ 1000000) :
    Calls Tryz.prog 20 #[.agg #[vA], .agg #[vB]] w fun e w' => ∃ v', e = .returned v' ∧ w'.ownsRow w.heap.size 96 2 v' (actsP (LA.map (·.1)) (LB.map (·.1))).length (actCells (actsP (LA.map (·.1)) (LB.map (·.1)))) ∧ Below w.heap.size w w' := by
  obtain ⟨ao, c, e1, f1⟩ := hA.form
  obtain ⟨bo, d, e2, f2⟩ := hB.form
  obtain ⟨n, hln⟩ : ∃ n, LA.length = n := ⟨_, rfl⟩
  obtain ⟨m, hlm⟩ : ∃ n, LB.length = n := ⟨_, rfl⟩
  rw [hln] at e1
  rw [hlm] at e2
  subst e1 e2
  have hnb : n ≤ 1000000 := by rw [← hln]; exact fA.len
  have hmb : m ≤ 1000000 := by rw [← hlm]; exact fB.len
  obtain ⟨W, hW⟩ : ∃ W, (w.alloc (.cells #[.slice ao n c] 33)).alloc (.cells #[.slice bo m d] 33) = W := ⟨_, rfl⟩
  have hb : Below w.heap.size w W := by rw [← hW]; exact chainP (below_alloc _ _) (below_alloc _ _)
  have q1 : rowIs W w.heap.size #[.slice ao n c] 33 := by rw [← hW]; exact (rowIs_new _ _ _).below (below_alloc _ _)
  have q2 : rowIs W (w.heap.size + 1) #[.slice bo m d] 33 := by rw [← hW]; exact rowIs_new_at _ _ _ _ (by simp)
  have hsz : W.heap.size = w.heap.size + 2 := by rw [← hW]; simp
  have HA := hid (And.intro hA fA)
  have HB := hid (And.intro hB fB)
  have HQ := hid (And.intro q1 (And.intro q2 hb))
  have HL := hid (And.intro hln hlm)
  have HSZ := hid (And.intro hsz hs)
  clear hA hB fA fB f1 f2 hln hlm hb q1 q2 hsz hs
  go_enter Tryz.func20, Tryz.ntmps20
  go_wp2_with fail
  clear hW
  go_loopw [5, 6] (fun u z wr => ∃ (k : Nat), z = .int .i64 (k : Int) ∧ k ≤ n ∧ Reads wr u ((((LA.map (·.1)).map (·.host)).take k).foldl riseL ([]) |>.map strV) ∧ Below W.heap.size W wr) (fun _ z _ => n - (intOf z).toNat)
  case atStart => exact ⟨0, rfl, Nat.zero_le _, (⟨none, 0, rfl, (fun j u h => by cases h), fun _ => rfl⟩ : Reads _ (.slice none 0 0) []), Below.refl _ _⟩
  case round =>
    obtain ⟨k, rfl, hk, hr, hb⟩ := hrel
    have HR := hid (And.intro hr hb)
    have HBW := hid (chainP HQ.out.2.2 hb)
    by_cases hlt : k < n
    · obtain ⟨⟨s, hv⟩, hx⟩ : ∃ x, LA[k]? = some x := by
        have := HL.out.1
        exact ⟨LA[k]'(by omega), List.getElem?_eq_getElem (by omega)⟩
      obtain ⟨b1, o1, g1, i1⟩ := (HA.out.1.below HBW.out).at_ hx
      subst g1
      have j1 := kept (HQ.out.1.cell 0) hb
      have hkI : (k : Int) < (n : Int) := by omega
      have hk0 : (0 : Int) ≤ (k : Int) := by omega
      have hkw : IntKind.i64.wrap ((k : Int) + 1) = (k : Int) + 1 := IntWalk.i64_in _ (by omega)
      obtain ⟨p1, hp1⟩ : ∃ p, o1 + k * 7 = p := ⟨_, rfl⟩
      rw [hp1] at i1
      have y0 := i1 0 _ rfl
      rw [Nat.add_zero] at y0
      have hx2 : ((LA.map (·.1)).map (·.host))[k]? = some s.host := by rw [List.map_map, List.getElem?_map, hx]; rfl
      have HST := hid (show ((((LA.map (·.1)).map (·.host)).take (k + 1)).foldl riseL ([])) = riseL ((((LA.map (·.1)).map (·.host)).take k).foldl riseL ([])) s.host by
        rw [List.take_add_one, hx2, List.foldl_append]; rfl)
      have hll : ((((LA.map (·.1)).map (·.host)).take k).foldl riseL ([])).length ≤ 1000000 := by
          have h1 := foldRise_len (((LA.map (·.1)).map (·.host)).take k) []
          have h2 := List.length_take (i := k) (l := (LA.map (·.1)).map (·.host))
          have h3 := HL.out.1
          rw [List.length_map, List.length_map] at h2
          simp only [List.length_nil] at h1
          omega
      obtain ⟨O, hO⟩ : ∃ O, ((((LA.map (·.1)).map (·.host)).take k).foldl riseL ([])) = O := ⟨_, rfl⟩
      rw [hO] at hll HST HR hr
      obtain ⟨au, cu, hu⟩ := hr.form
      obtain ⟨nu, hnu⟩ : ∃ n, (O.map strV).length = n := ⟨_, rfl⟩
      rw [hnu] at hu
      subst hu
      have CP := hid (refPut_any _ O s.host wr HR.out.1 hll)
      clear hr hb hx i1 hx2 hll hO hnu
      go_wp2_with fail
      refine CP.out.mono ?_
      rintro e w5 ⟨v5, n5, rfl, hown5, hb5⟩
      have HR5 := hid hown5.reads
      have HB5 := hid (chainP HR.out.2 hb5)
      clear y0 j1 hown5 hb5
      go_wp2_with fail
      go_roundw
      case rel => exact ⟨k + 1, by go_num, hlt, by rw [HST.out]; exact HR5.out, HB5.out⟩
      case measure => simp [intOf]; omega
    · have hkn : n = k := by omega
      have e0 : ((LA.map (·.1)).map (·.host)).take k = (LA.map (·.1)).map (·.host) := List.take_of_length_le (by have := HL.out.1; rw [List.length_map, List.length_map]; omega)
      rw [e0] at hr
      have hkI : ¬ (k : Int) < (n : Int) := by omega
      have j1 := kept (HQ.out.1.cell 0) hb
      clear e0 hkn
      have HRA := hid (And.intro hr hb)
      clear hr hb
      go_wp2_with fail
      clear j1
      go_loopw [5, 7] (fun u z wr => ∃ (k : Nat), z = .int .i64 (k : Int) ∧ k ≤ m ∧ Reads wr u ((((LB.map (·.1)).map (·.host)).take k).foldl riseL (((LA.map (·.1)).map (·.host)).foldl riseL []) |>.map strV) ∧ Below W.heap.size W wr) (fun _ z _ => m - (intOf z).toNat)
      case atStart => exact ⟨0, rfl, Nat.zero_le _, HRA.out.1, HRA.out.2⟩
      case round =>
        obtain ⟨k, rfl, hk, hr, hb⟩ := hrel
        have HR := hid (And.intro hr hb)
        have HBW := hid (chainP HQ.out.2.2 hb)
        by_cases hlt : k < m
        · obtain ⟨⟨s, hv⟩, hx⟩ : ∃ x, LB[k]? = some x := by
            have := HL.out.2
            exact ⟨LB[k]'(by omega), List.getElem?_eq_getElem (by omega)⟩
          obtain ⟨b1, o1, g1, i1⟩ := (HB.out.1.below HBW.out).at_ hx
          subst g1
          have j1 := kept (HQ.out.2.1.cell 0) hb
          have hkI : (k : Int) < (m : Int) := by omega
          have hk0 : (0 : Int) ≤ (k : Int) := by omega
          have hkw : IntKind.i64.wrap ((k : Int) + 1) = (k : Int) + 1 := IntWalk.i64_in _ (by omega)
          obtain ⟨p1, hp1⟩ : ∃ p, o1 + k * 7 = p := ⟨_, rfl⟩
          rw [hp1] at i1
          have y0 := i1 0 _ rfl
          rw [Nat.add_zero] at y0
          have hx2 : ((LB.map (·.1)).map (·.host))[k]? = some s.host := by rw [List.map_map, List.getElem?_map, hx]; rfl
          have HST := hid (show ((((LB.map (·.1)).map (·.host)).take (k + 1)).foldl riseL (((LA.map (·.1)).map (·.host)).foldl riseL [])) = riseL ((((LB.map (·.1)).map (·.host)).take k).foldl riseL (((LA.map (·.1)).map (·.host)).foldl riseL [])) s.host by
            rw [List.take_add_one, hx2, List.foldl_append]; rfl)
          have hll : ((((LB.map (·.1)).map (·.host)).take k).foldl riseL (((LA.map (·.1)).map (·.host)).foldl riseL [])).length ≤ 1000000 := by
              have h1 := foldRise_len (((LB.map (·.1)).map (·.host)).take k) (((LA.map (·.1)).map (·.host)).foldl riseL [])
              have h2 := List.length_take (i := k) (l := (LB.map (·.1)).map (·.host))
              have h3 := foldRise_len ((LA.map (·.1)).map (·.host)) []
              have h4 := HL.out
              have h5 := HSZ.out.2
              rw [List.length_map, List.length_map] at h2 h3
              simp only [List.length_nil] at h3
              omega
          obtain ⟨O, hO⟩ : ∃ O, ((((LB.map (·.1)).map (·.host)).take k).foldl riseL (((LA.map (·.1)).map (·.host)).foldl riseL [])) = O := ⟨_, rfl⟩
          rw [hO] at hll HST HR hr
          obtain ⟨au, cu, hu⟩ := hr.form
          obtain ⟨nu, hnu⟩ : ∃ n, (O.map strV).length = n := ⟨_, rfl⟩
          rw [hnu] at hu
          subst hu
          have CP := hid (refPut_any _ O s.host wr HR.out.1 hll)
          clear hr hb hx i1 hx2 hll hO hnu
          go_wp2_with fail
          refine CP.out.mono ?_
          rintro e w5 ⟨v5, n5, rfl, hown5, hb5⟩
          have HR5 := hid hown5.reads
          have HB5 := hid (chainP HR.out.2 hb5)
          clear y0 j1 hown5 hb5
          go_wp2_with fail
          go_roundw
          case rel => exact ⟨k + 1, by go_num, hlt, by rw [HST.out]; exact HR5.out, HB5.out⟩
          case measure => simp [intOf]; omega
        · have hkn : m = k := by omega
          have e0 : ((LB.map (·.1)).map (·.host)).take k = (LB.map (·.1)).map (·.host) := List.take_of_length_le (by have := HL.out.2; rw [List.length_map, List.length_map]; omega)
          rw [e0] at hr
          have hkI : ¬ (k : Int) < (m : Int) := by omega
          have j1 := kept (HQ.out.2.1.cell 0) hb
          clear e0 hkn
          have hrH : Reads wr _ ((hostsP (LA.map (·.1)) (LB.map (·.1))).map strV) := hr
          have HBV := hid (And.intro (chainP HQ.out.2.2 hb) hb)
          obtain ⟨au, cu, hu⟩ := hrH.form
          obtain ⟨N, hN⟩ : ∃ n, (hostsP (LA.map (·.1)) (LB.map (·.1))).length = n := ⟨_, rfl⟩
          rw [List.length_map, hN] at hu
          subst hu
          obtain ⟨V, hV⟩ : ∃ V, V = wr := ⟨_, rfl⟩
          rw [← hV] at hrH HBV ⊢
          have HRH := hid hrH
          have HN := hid hN
          have hNb : N ≤ 1000000 := by
            have h1 := hostsP_len_le (LA.map (·.1)) (LB.map (·.1))
            have h2 := HL.out
            have h3 := HSZ.out.2
            rw [List.length_map, List.length_map] at h1
            omega
          rw [← hV] at j1
          clear hr hb hrH hN hV HR HBW
          go_wp2_with fail
          clear j1
          go_loopw [8, 9] (fun u z wr => ∃ (k : Nat), z = .int .i64 (k : Int) ∧ k ≤ N ∧ wr.ownsRow V.heap.size 96 2 u k (actCells ((actsP (LA.map (·.1)) (LB.map (·.1))).take k)) ∧ Below V.heap.size V wr) (fun _ z _ => N - (intOf z).toNat)
          case atStart => exact ⟨0, rfl, Nat.zero_le _, World.ownsRow_nil _ _ _ _, Below.refl _ _⟩
          case round =>
            obtain ⟨k, rfl, hk, ho, hb⟩ := hrel
            have HB3 := hid hb
            by_cases hlt : k < N
            · obtain ⟨x, hx⟩ : ∃ x, (hostsP (LA.map (·.1)) (LB.map (·.1)))[k]? = some x := by
                have := HN.out
                exact ⟨(hostsP (LA.map (·.1)) (LB.map (·.1)))[k]'(by omega), List.getElem?_eq_getElem (by omega)⟩
              have hxm : ((hostsP (LA.map (·.1)) (LB.map (·.1))).map strV)[k]? = some (strV x) := by rw [List.getElem?_map, hx]; rfl
              obtain ⟨a1, c1', e1, f1, hz1⟩ := HRH.out
              injection e1 with e1 k1 k2
              clear k1 k2
              subst e1
              obtain ⟨b2, o2, g2, i2⟩ := f1 k _ hxm
              subst g2
              have D1 : Hid (∀ W, Below V.heap.size V W → W.cell? ⟨b2, o2 + k, none⟩ = some (strV x)) := fun W hS => kept i2 hS
              have RA2 := hid (show ∀ W, Below V.heap.size V W → rowIs W w.heap.size #[.slice ao n c] 33 from fun W hS => HQ.out.1.below (chainP HBV.out.2 hS))
              have RB2 := hid (show ∀ W, Below V.heap.size V W → rowIs W (w.heap.size + 1) #[.slice bo m d] 33 from fun W hS => HQ.out.2.1.below (chainP HBV.out.2 hS))
              have CK : Hid (∀ W, Below V.heap.size V W → Calls Tryz.prog 47 #[.agg #[.slice ao n c], .agg #[.slice bo m d], strV x] W fun e w' => e = .returned (.int .i64 ((kindD (LA.map (·.1)) (LB.map (·.1)) x : Nat) : Int)) ∧ Below W.heap.size W w') := fun W hS =>
                refKind_any (.slice ao n c) (.slice bo m d) LA LB x W (HA.out.1.below (chainP HBV.out.1 hS)) (HB.out.1.below (chainP HBV.out.1 hS)) HA.out.2.len HB.out.2.len HA.out.2.heads HB.out.2.heads
              have HAT := hid (actsP_take hx)
              obtain ⟨kd, hkd⟩ : ∃ kd, kindD (LA.map (·.1)) (LB.map (·.1)) x = kd := ⟨_, rfl⟩
              rw [hkd] at CK HAT
              have hkI : (k : Int) < (N : Int) := by omega
              have hk0 : (0 : Int) ≤ (k : Int) := by omega
              have hkw : IntKind.i64.wrap ((k : Int) + 1) = (k : Int) + 1 := IntWalk.i64_in _ (by omega)
              have HO := hid ho
              obtain ⟨aw, cw, hfo⟩ := ownsRow_formN ho
              subst hfo
              clear hb ho f1 hx hxm hz1 i2 hkd
              go_wp2_with fail
              refine wp_region_held_drew (S := fun w' => Below V.heap.size V w') (by kernel_rfl) (HB3.out.drew) (fun hH => ?_)
              refine wpAnyH_take (i := 0) (v := ?_) rfl (by kernel_rfl) (by kernel_rfl) (by kernel_rfl) (fun _ _ _ h => h) (Or.inl ⟨by kernel_rfl, ?_⟩) hH ?_
              rotate_left
              · intro W hS
                have d1 := D1.out W hS
                go_simp
                first | done | with_reducible rfl
              simp only [Act.put, List.getElem_toArray, List.getElem_cons_succ, List.getElem_cons_zero, List.setIfInBounds_toArray, List.set_cons_zero, List.set_cons_succ]
              refine wpAnyH_take (i := 1) (v := .agg #[.slice ao n c]) rfl (by kernel_rfl) (by kernel_rfl) (by kernel_rfl) (fun _ _ _ h => h) (Or.inl ⟨by kernel_rfl, ?_⟩) hH ?_
              · intro W hS
                exact load_gives rfl _ rfl (RA2.out W hS) Tryz.underlying33 rfl infoRefCfg
              simp only [Act.put, List.getElem_toArray, List.getElem_cons_succ, List.getElem_cons_zero, List.setIfInBounds_toArray, List.set_cons_zero, List.set_cons_succ]
              refine wpAnyH_take (i := 2) (v := .agg #[.slice bo m d]) rfl (by kernel_rfl) (by kernel_rfl) (by kernel_rfl) (fun _ _ _ h => h) (Or.inl ⟨by kernel_rfl, ?_⟩) hH ?_
              · intro W hS
                exact load_gives rfl _ rfl (RB2.out W hS) Tryz.underlying33 rfl infoRefCfg
              simp only [Act.put, List.getElem_toArray, List.getElem_cons_succ, List.getElem_cons_zero, List.setIfInBounds_toArray, List.set_cons_zero, List.set_cons_succ]
              refine wpAnyH_take (i := 3) (v := ?_) rfl (by kernel_rfl) (by kernel_rfl) (by kernel_rfl) (fun _ _ _ h => h) (Or.inl ⟨by kernel_rfl, ?_⟩) hH ?_
              rotate_left
              · intro W hS
                have d1 := D1.out W hS
                go_simp
                first | done | with_reducible rfl
              simp only [Act.put, List.getElem_toArray, List.getElem_cons_succ, List.getElem_cons_zero, List.setIfInBounds_toArray, List.set_cons_zero, List.set_cons_succ]
              refine wpAnyH_take (i := 4) (v := ?_) rfl (by kernel_rfl) (by kernel_rfl) (by kernel_rfl) (fun _ _ _ h => h) (Or.inl ⟨by kernel_rfl, ?_⟩) hH ?_
              rotate_left
              · intro W hS
                have d1 := D1.out W hS
                go_simp
                first | done | with_reducible rfl
              simp only [Act.put, List.getElem_toArray, List.getElem_cons_succ, List.getElem_cons_zero, List.setIfInBounds_toArray, List.set_cons_zero, List.set_cons_succ]
              refine wpAnyH_take (i := 5) (v := ?_) rfl (by kernel_rfl) (by kernel_rfl) (by kernel_rfl) (fun _ _ _ h => h) (Or.inl ⟨by kernel_rfl, ?_⟩) hH ?_
              rotate_left
              · intro W hS
                have d1 := D1.out W hS
                go_simp
                first | done | with_reducible rfl
              simp only [Act.put, List.getElem_toArray, List.getElem_cons_succ, List.getElem_cons_zero, List.setIfInBounds_toArray, List.set_cons_zero, List.set_cons_succ]
              refine wpAnyH_take (i := 6) (v := ?_) rfl (by kernel_rfl) (by kernel_rfl) (by kernel_rfl) (fun _ _ _ h => h) (Or.inl ⟨by kernel_rfl, ?_⟩) hH ?_
              rotate_left
              · intro W hS
                have d1 := D1.out W hS
                go_simp
                first | done | with_reducible rfl
              simp only [Act.put, List.getElem_toArray, List.getElem_cons_succ, List.getElem_cons_zero, List.setIfInBounds_toArray, List.set_cons_zero, List.set_cons_succ]
              refine wpAnyH_take (i := 8) (v := ?_) rfl (by kernel_rfl) (by kernel_rfl) (by kernel_rfl) (fun _ _ _ h => h) (Or.inl ⟨by kernel_rfl, ?_⟩) hH ?_
              rotate_left
              · intro W hS
                have d1 := D1.out W hS
                go_simp
                first | done | with_reducible rfl
              simp only [Act.put, List.getElem_toArray, List.getElem_cons_succ, List.getElem_cons_zero, List.setIfInBounds_toArray, List.set_cons_zero, List.set_cons_succ]
              refine wpAnyH_take (i := 9) (v := ?_) rfl (by kernel_rfl) (by kernel_rfl) (by kernel_rfl) (fun _ _ _ h => h) (Or.inl ⟨by kernel_rfl, ?_⟩) hH ?_
              rotate_left
              · intro W hS
                have d1 := D1.out W hS
                go_simp
                first | done | with_reducible rfl
              simp only [Act.put, List.getElem_toArray, List.getElem_cons_succ, List.getElem_cons_zero, List.setIfInBounds_toArray, List.set_cons_zero, List.set_cons_succ]
              refine wpAnyH_take (i := 10) (v := ?_) rfl (by kernel_rfl) (by kernel_rfl) (by kernel_rfl) (fun _ _ _ h => h) (Or.inl ⟨by kernel_rfl, ?_⟩) hH ?_
              rotate_left
              · intro W hS
                have d1 := D1.out W hS
                go_simp
                first | done | with_reducible rfl
              simp only [Act.put, List.getElem_toArray, List.getElem_cons_succ, List.getElem_cons_zero, List.setIfInBounds_toArray, List.set_cons_zero, List.set_cons_succ]
              refine wpAnyH_take (i := 11) (v := ?_) rfl (by kernel_rfl) (by kernel_rfl) (by kernel_rfl) (fun _ _ _ h => h) (Or.inl ⟨by kernel_rfl, ?_⟩) hH ?_
              rotate_left
              · intro W hS
                have d1 := D1.out W hS
                go_simp
                first | done | with_reducible rfl
              simp only [Act.put, List.getElem_toArray, List.getElem_cons_succ, List.getElem_cons_zero, List.setIfInBounds_toArray, List.set_cons_zero, List.set_cons_succ]
              refine wpAnyH_ready (rs := [7]) (by kernel_rfl) (by simp) ?_
              refine AllReadyH.cons rfl (fun K hK => ?_) AllReadyH.nil
              go_simp
              refine (CK.out _ hH).mono ?_
              rintro e w6 ⟨rfl, hb6⟩
              have HO6 := hid (HO.out.below (below_of_drew hb6))
              refine hK.out _ _ (chainP hH hb6) (fun hH => ?_)
              clear hK K
              try simp only [Act.put, List.getElem_toArray, List.getElem_cons_succ, List.getElem_cons_zero, List.setIfInBounds_toArray, List.set_cons_zero, List.set_cons_succ]
              refine wpAnyH_take (i := 12) (v := ?_) rfl (by kernel_rfl) (by kernel_rfl) (by kernel_rfl) (fun _ _ _ h => h) (Or.inl ⟨by kernel_rfl, ?_⟩) hH ?_
              rotate_left
              · intro W hS
                have d1 := D1.out W hS
                go_simp
                first | done | with_reducible rfl
              simp only [Act.put, List.getElem_toArray, List.getElem_cons_succ, List.getElem_cons_zero, List.setIfInBounds_toArray, List.set_cons_zero, List.set_cons_succ]
              refine wpAnyH_ready (rs := [13]) (by kernel_rfl) (by simp) ?_
              refine AllReadyH.cons rfl (fun K hK => ?_) AllReadyH.nil
              obtain ⟨w7, hW7⟩ : ∃ W, W = w6.alloc (.cells #[.int .i64 (kd : Int), strV x] 96) := ⟨_, rfl⟩
              have hb7 : Below w6.heap.size w6 w7 := by rw [hW7]; exact below_alloc _ _
              have HO7 := hid (HO6.out.below hb7)
              have HC7 : Hid (rowIs w7 w6.heap.size #[.int .i64 (kd : Int), strV x] 96) := by rw [hW7]; exact rowIs_new _ _ _
              go_simp
              rw [← hW7]
              clear hW7
              refine hK.out _ _ (chainP hH hb7) (fun hH => ?_)
              clear hK K
              try simp only [Act.put, List.getElem_toArray, List.getElem_cons_succ, List.getElem_cons_zero, List.setIfInBounds_toArray, List.set_cons_zero, List.set_cons_succ]
              refine wpAnyH_ready (rs := [14]) (by kernel_rfl) (by simp) ?_
              refine AllReadyH.cons rfl (fun K hK => ?_) AllReadyH.nil
              rw [if_pos (by kernel_rfl)]
              refine wp_append_gen w7 (.tmp 46) (.tmp 59) 44 rfl V.heap.size 96 Tryz.underlying44 infoRefAct rfl (by decide) (by decide) (v := .slice aw k cw) rfl HO7.out ⟨w6.heap.size, 0, none⟩ 1 1 [.int .i64 (kd : Int), strV x] rfl (fun j u hj => ?_) (fun u hu => ?_) rfl (by omega) hH.size (fun v8 w8 ho8 hg8 hi8 => ?_)
              · rw [addAt2, Nat.zero_add, HC7.out.cell j]; simpa using hj
              · rcases List.mem_cons.1 hu with rfl | hu
                · rfl
                · rcases List.mem_cons.1 hu with rfl | hu
                  · rfl
                  · cases hu
              have HO8 := hid ho8
              have hS8 : Below V.heap.size V w8 := hH.grown hg8 hH.size (fun k hk => (HO7.out.lt k hk).1)
              refine hK.out _ _ hS8 (fun hH => ?_)
              clear hK K
              try simp only [Act.put, List.getElem_toArray, List.getElem_cons_succ, List.getElem_cons_zero, List.setIfInBounds_toArray, List.set_cons_zero, List.set_cons_succ]
              refine wpAnyH_take (i := 15) (v := ?_) rfl (by kernel_rfl) (by kernel_rfl) (by kernel_rfl) (fun _ _ _ h => h) (Or.inl ⟨by kernel_rfl, ?_⟩) hH ?_
              rotate_left
              · intro W hS
                have d1 := D1.out W hS
                go_simp
                first | done | with_reducible rfl
              simp only [Act.put, List.getElem_toArray, List.getElem_cons_succ, List.getElem_cons_zero, List.setIfInBounds_toArray, List.set_cons_zero, List.set_cons_succ]
              refine wpAnyH_done (by kernel_rfl) ?_ _
              go_wp2_with fail
              go_roundw
              case rel => exact ⟨k + 1, by go_num, hlt, by rw [HAT.out, actCells_append]; exact HO8.out, hH⟩
              case measure => simp [intOf]; omega
            · have e0 : (actsP (LA.map (·.1)) (LB.map (·.1))).take k = actsP (LA.map (·.1)) (LB.map (·.1)) := List.take_of_length_le (by rw [actsP_len]; have := HN.out; omega)
              have hkn : k = N := by omega
              rw [e0, hkn] at ho
              have HE := hid (show w.heap.size ≤ V.heap.size from HBV.out.1.size)
              have HO := hid ho
              have HBE := hid (chainP HBV.out.1 hb)
              have hkI : ¬ (k : Int) < (N : Int) := by omega
              clear ho hb e0 hkn
              go_wp2_with fail
              go_ret
              refine ⟨_, rfl, ?_, HBE.out⟩
              rw [actsP_len, HN.out]
              exact HO.out.base HE.out
end Go.Proofs.YtenijpcjemdhfaaGreatDoor
