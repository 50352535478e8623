/-
  What the walks of layer 10's statements share.
-/
import Derived.Test.YtenijpcjemdhfaaGreatDoorP10d09
import Derived.Test.YtenijpcjemdhfaaGreatDoorCardConf
namespace Go.Pantry
open Go.RowKit
theorem acts_at {A B : List SiteZ} {k q : Nat} {u : List UInt8} (h : (actsP A B)[k]? = some (q, u)) : (hostsP A B)[k]? = some u ∧ q = kindD A B u := by
  unfold actsP at h
  rw [List.getElem?_map] at h
  obtain ⟨x, hx, he⟩ := Option.map_eq_some_iff.1 h
  injection he with h1 h2
  subst h2
  exact ⟨hx, h1.symm⟩
theorem acts_turn {A B : List SiteZ} {k q : Nat} {u : List UInt8} (h : (actsP A B)[k]? = some (q, u)) : (actsP B A)[k]? = some (turnK q, u) ∧ q < 4 := by
  obtain ⟨hx, rfl⟩ := acts_at h
  refine ⟨?_, kindD_le A B u⟩
  have hm := List.mem_of_getElem? hx
  rw [← kindD_turn hm]
  unfold actsP
  rw [List.getElem?_map, hostsP_comm B A, hx]
  rfl
theorem acts_rise {A B : List SiteZ} {k q : Nat} {u : List UInt8} (h : (actsP A B)[k + 1]? = some (q, u)) : ∃ q' u', (actsP A B)[k]? = some (q', u') ∧ Op.bytesLess u' u = true := by
  obtain ⟨hx, rfl⟩ := acts_at h
  have hlt := (List.getElem?_eq_some_iff.1 hx).1
  obtain ⟨y, hy⟩ : ∃ y, (hostsP A B)[k]? = some y := ⟨(hostsP A B)[k]'(by omega), List.getElem?_eq_getElem (by omega)⟩
  refine ⟨kindD A B y, y, by unfold actsP; rw [List.getElem?_map, hy]; rfl, ?_⟩
  have hs := List.pairwise_iff_getElem.1 (hostsP_sorted A B) k (k + 1) (by omega) hlt (by omega)
  rw [(List.getElem?_eq_some_iff.1 hy).2, (List.getElem?_eq_some_iff.1 hx).2] at hs
  have := ltL_iff y u
  unfold ltL at this
  rw [this]
  exact decide_eq_true hs
theorem acts_self {A : List SiteZ} {k q : Nat} {u : List UInt8} (h : (actsP A A)[k]? = some (q, u)) : q = 0 := by
  obtain ⟨hx, rfl⟩ := acts_at h
  exact kindD_self (List.mem_of_getElem? hx)
theorem load_mid {P : Program} {ρ : Operand → Value} {o : Oper} {ty : TypeId} {x : Operand} (ho : o.op = .load ty x) {W : World} (b off : Nat) (hx : ρ x = .pointer (some ⟨b, off, none⟩)) (cs : List Value) (hg : W.rangeAt b off cs) {d : TypeDesc}
    (hu : P.underlying ty = some d) (hd : d.isRow = true) (hi : (P.info? ty).map (·.size) = some cs.length) : (execOp ρ o).run P W = .ok (.value (.agg cs.toArray)) W := by
  unfold execOp
  simp only [ho, hx, Instr.loadAt, Instr.sureAddr, Sem.run_bind, Sem.run_pure, Result.andThen_ok, run_loadVar_mid W b off ty cs d hg hu hd hi]
theorem range_rule {w : World} {b o : Nat} {r : RuleZ} (h : ∀ (i : Nat) u, (rowRz r)[i]? = some u → w.cell? ⟨b, o + i, none⟩ = some u) : w.rangeAt b o (rowZ r.2.1 r.1).toList := fun j v hv => by
  have hj : j < 7 := (List.getElem?_eq_some_iff.1 hv).1
  refine h j v ?_
  rw [← hv, Array.getElem?_toList]
  match j, hj with
  | 0, _ | 1, _ | 2, _ | 3, _ | 4, _ | 5, _ | 6, _ => rfl
end Go.Pantry
namespace Go.Proofs.YtenijpcjemdhfaaGreatDoor
open Go.RowKit Go.Pantry

theorem oneCfg (ao : Option Addr) (n c : Nat) : (#[.slice ao n c] : Array Value).all (·.oneCell') = true := by simp [Value.oneCell']
theorem row_other {w : World} {g p : Nat} {cs : Array Value} {t : TypeId} (h : rowIs w g cs t) (hn : ¬ p = g) (ds : Array Value) : rowIs (w.setRow p ds) g cs t := h.setRow_other _ (by omega)
theorem two_made {n W : World} {m k : Nat} {e : TypeId} {sz : Nat} {v : Value} {xs : List Value} (p0 p1 : Nat) (ho : n.ownsRow m e sz v k xs) (hb : Below n.heap.size n W) (h0 : p0 < m ∨ n.heap.size ≤ p0) (h1 : p1 < m ∨ n.heap.size ≤ p1) (c0 c1 : Array Value) :
    ((W.setRow p0 c0).setRow p1 c1).ownsRow m e sz v k xs := by
  have kk := ((Kept.of_below (X := fun k => k = p0 ∨ k = p1) hb).setRow (g := p0) (.inl (.inl rfl)) c0).setRow (g := p1) (.inl (.inr rfl)) c1
  exact ownsRow_kept ho kk (fun k hk e => by
    have := ho.lt k hk
    rcases e with e | e <;> (subst e; omega))
/-- what Diff answers, in one form -/
theorem diff_form {w w' : World} {A B : List SiteZ} {e : Ending} (h : DiffPost w A B e w') : ∃ v z, e = .returned (.tuple #[v, .int .i64 z]) ∧ ((rightC A && rightC B) = true ∧ z = 0 ∧ w'.ownsRow w.heap.size 48 2 v (actsP A B).length (actCells (actsP A B)) ∨ (rightC A && rightC B) = false ∧ z = 10 ∧ v = .slice none 0 0) ∧ Below w.heap.size w w' := by
  obtain ⟨h1, hb⟩ := h
  cases q : (rightC A && rightC B)
  · rw [q] at h1
    exact ⟨_, _, h1, .inr ⟨rfl, rfl, rfl⟩, hb⟩
  · rw [q] at h1
    obtain ⟨v, he, ho⟩ := h1
    exact ⟨v, 0, he, .inl ⟨rfl, rfl, ho⟩, hb⟩
theorem diff_right {w w' : World} {A B : List SiteZ} {e : Ending} (h : DiffPost w A B e w') (hr : (rightC A && rightC B) = true) : ∃ v, e = .returned (.tuple #[v, .int .i64 0]) ∧ w'.ownsRow w.heap.size 48 2 v (actsP A B).length (actCells (actsP A B)) ∧ Below w.heap.size w w' := by
  obtain ⟨v, z, he, hd, hb⟩ := diff_form h
  rcases hd with ⟨_, rfl, ho⟩ | ⟨hf, _, _⟩
  · exact ⟨v, he, ho, hb⟩
  · rw [hr] at hf; cases hf
theorem fewR_fit {L : List RuleZ} (h1 : L.length ≤ 12) (h2 : ∀ x ∈ L, x.1.host.length ≤ 100 ∧ x.1.heads.length ≤ 10 ∧ ∀ y ∈ x.1.heads, y.length ≤ 100) (hr : ∀ y ∈ L, Room y.2.1) : FewR L :=
  ⟨by omega, hr, fun x hx => by have := (h2 x hx).1; omega, fun x hx => by have := (h2 x hx).2.1; omega, fun x hx y hy => by have := (h2 x hx).2.2 y hy; omega⟩
theorem fewR_next {g : Int} {T : List RuleZ} (h : rightT g (tT T) = true) (hr : ∀ x ∈ T, Room x.2.1) : FewR T := by
  have hc := (rightT_iff.1 h).2.2
  rw [tT_map] at hc
  obtain ⟨h8, h2, _⟩ := rightC_iff.1 hc
  rw [List.length_map] at h8
  have each : ∀ x ∈ T, x.1.host.length ≤ 46 ∧ x.1.heads.length ≤ 4 ∧ ∀ y ∈ x.1.heads, y.length ≤ 64 := fun x hx => right_few (h2 _ (List.mem_map.2 ⟨x, hx, rfl⟩))
  exact ⟨by omega, hr, fun x hx => by have := (each x hx).1; omega, fun x hx => by have := (each x hx).2.1; omega, fun x hx y hy => by have := (each x hx).2.2 y hy; omega⟩
/-- what Next answers, in one form -/
theorem next_both {w w' : World} {g : Int} {L : List RuleZ} {C : List SiteZ} {e : Ending} (h : NextPost w g L C e w') :
    ∃ gu au nu cu va z, e = .returned (.tuple #[.agg #[.int .i64 gu, .slice au nu cu], va, .int .i64 z]) ∧ (((rightT g (tT L) && rightC C && !(g == 253402300799)) = true ∧ z = 0 ∧ gu = g + 1 ∧ ∃ LU, tT LU = nextL g (tT L) C ∧ RulesOwn w' w.heap.size (.slice au nu cu) LU ∧ w'.ownsRow w.heap.size 48 2 va (actsP (L.map (·.1)) C).length (actCells (actsP (L.map (·.1)) C))) ∨ ((rightT g (tT L) && rightC C && !(g == 253402300799)) = false ∧ z = 10 ∧ gu = 0 ∧ nu = 0 ∧ va = .slice none 0 0)) ∧ Below w.heap.size w w' := by
  obtain ⟨h1, hb⟩ := h
  cases q : (rightT g (tT L) && rightC C && !(g == 253402300799))
  · rw [q] at h1
    exact ⟨0, none, 0, 0, _, 10, h1, .inr ⟨rfl, rfl, rfl, rfl, rfl⟩, hb⟩
  · rw [q] at h1
    obtain ⟨v, LU, va, he, ht, ho, hw⟩ := h1
    obtain ⟨ao, c, hv⟩ := ownsRow_formN ho.own
    subst hv
    exact ⟨g + 1, ao, _, c, va, 0, he, .inl ⟨rfl, rfl, rfl, LU, ht, ho, hw⟩, hb⟩
theorem rfind_form {w w' : World} {L : List RuleZ} {host : List UInt8} {e : Ending} (h : RFindPost w L host e w') (hf : FewR L) :
    ∃ (x : RuleZ) (ah : Option Addr) (nh ch : Nat) (ok : Bool), e = .returned (.tuple #[.agg (rowRz (x.1, .slice ah nh ch, x.2.2)), .bool ok]) ∧ Reads w' (.slice ah nh ch) (x.1.heads.map strV) ∧ x.1.heads.length ≤ 1000000 ∧ L.find? (fun x => x.1.host == host) = (if ok then some x else none) ∧ Below w.heap.size w w' := by
  obtain ⟨h1, hb⟩ := h
  cases q : L.find? (fun x => x.1.host == host) with
  | none =>
    rw [q] at h1
    exact ⟨(⟨[], 0, 0, 0, false, false, []⟩, .slice none 0 0, 0), none, 0, 0, false, h1, ⟨none, 0, rfl, (fun j u hj => by cases hj), fun _ => rfl⟩, by simp, rfl, hb⟩
  | some x =>
    rw [q] at h1
    obtain ⟨hv, he, hr⟩ := h1
    obtain ⟨ah, ch, e2⟩ := hr.form
    subst e2
    exact ⟨x, ah, _, ch, true, he, hr, hf.heads _ (List.mem_of_find?_eq_some q), rfl, hb⟩
end Go.Proofs.YtenijpcjemdhfaaGreatDoor
