/-
  A region that draws its order, walked in the text's order: what each operation yields hangs on a condition S on the world alone, and each leaves S (a call by its contract); but those of a list ks (an alloc, a store): each turns S's mark, where nothing else is left to come. No program is imported.
-/
import Derived.Test.YtfoghjhdjmapnaaDoorBase3
import Derived.OrdersHeld
import Derived.Deep.RegionHeld3
namespace Go.Pantry
open Go.RowKit

section
variable {P : Program} {ops : Array Oper} {Q : Exit → Act → World → Prop} {md : Region.Mode} {S : List Bool → World → Prop} {ks : List Nat}

/-- what an operation comes to, in a word that names no state: v, and a world that meets R -/
def Gives (P : Program) (r : Result Next) (v : Value) (R : World → Prop) : Prop := match r with
  | .ok (.value u) w' => u = v ∧ R w'
  | .ok .skip w' => undef = v ∧ R w'
  | .ok (.enter f args) w' => Calls P f args w' fun e w'' => e = .returned v ∧ R w''
  | _ => False
/-- An operation is steady: carried out wherever S holds it leaves v, and S; or it isn't wanted. -/
def Steady (P : Program) (ops : Array Oper) (S : List Bool → World → Prop) (o : Oper) (v : Value) (a : Act) : Prop :=
  (Region.wanted o (yielded ops a.tmps) = true ∧ ∀ b w, S b w → Gives P ((execOp a.eval o).run P w) v (S b)) ∨
  (Region.wanted o (yielded ops a.tmps) = false ∧ v = undef)
theorem Steady.same {o : Oper} {v : Value} {a a' : Act} (h : Steady P ops S o v a) (he : execOp a'.eval o = execOp a.eval o) (hw : Region.wanted o (yielded ops a'.tmps) = Region.wanted o (yielded ops a.tmps)) : Steady P ops S o v a' := by
  unfold Steady
  rw [he, hw]
  exact h
theorem Gives.upon {o : Oper} {a : Act} {r : Result Next} {v : Value} {R : World → Prop} {K : Act → World → Prop} (h : Gives P r v R) (hK : ∀ w, R w → K (a.put o.dst v) w) : o.upon P a K Q r := by
  cases r with
  | halt x w' => exact h.elim
  | ok n w' =>
    cases n with
    | value u => obtain ⟨rfl, h2⟩ := h; exact hK _ h2
    | skip => obtain ⟨rfl, h2⟩ := h; exact hK _ h2
    | enter f args => exact Calls.mono h fun e w'' ⟨he, h2⟩ => by subst he; exact hK _ h2
    | _ => exact h.elim
def marked (ks : List Nat) (listed : Array Bool) : List Bool := ks.map fun k => listed.getD k true
theorem marked_other {i : Nat} {listed : Array Bool} (h : i ∉ ks) : marked ks (listed.setIfInBounds i true) = marked ks listed := by
  refine List.map_congr_left fun k hk => getD_set_ne true fun e => h (by rw [e]; exact hk)
/-- Whatever comes up next, in whatever world that meets S: behind it S, and the rest. -/
def wpAnyU (P : Program) (md : Region.Mode) (ops : Array Oper) (Q : Exit → Act → World → Prop) (S : List Bool → World → Prop) (ks : List Nat) : Nat → Array Bool → Act → Prop
  | 0, listed, a => Region.ready md ops listed = [] ∧ ∀ w, S (marked ks listed) w → Q .normal a w
  | fuel + 1, listed, a =>
    (Region.ready md ops listed = [] → ∀ w, S (marked ks listed) w → Q .normal a w) ∧
    ∀ i ∈ Region.ready md ops listed, ∀ w, S (marked ks listed) w → wpOp P ops Q i (fun a' w' => S (marked ks (listed.setIfInBounds i true)) w' ∧ wpAnyU P md ops Q S ks fuel (listed.setIfInBounds i true) a') a w
theorem wpAny_of_U : ∀ (fuel : Nat) (listed : Array Bool) (a : Act) (w : World), S (marked ks listed) w → wpAnyU P md ops Q S ks fuel listed a → wpAny P md ops Q fuel listed a w
  | 0, _, _, w, hS, h => ⟨h.1, h.2 w hS⟩
  | fuel + 1, _, _, w, hS, h => ⟨fun h0 => h.1 h0 w hS, fun i hi => wpOp_mono (fun a' w' h' => wpAny_of_U fuel _ a' w' h'.1 h'.2) (h.2 i hi w hS)⟩

theorem Steady.run {i : Nat} (hik : i ∉ ks) {o : Oper} {v : Value} {a : Act} (hi : ops[i]? = some o) (h : Steady P ops S o v a) {listed : Array Bool} {w : World} (hS : S (marked ks listed) w) {K : Act → World → Prop}
    (hK : ∀ w', S (marked ks (listed.setIfInBounds i true)) w' → K (a.put o.dst v) w') : wpOp P ops Q i K a w := by
  rw [marked_other hik] at hK
  unfold wpOp
  simp only [hi]
  rcases h with ⟨hw, hg⟩ | ⟨hw, rfl⟩
  · rw [hw, if_pos rfl]
    exact .inl (Gives.upon (hg _ w hS) hK)
  · rw [hw, if_neg (by simp)]
    exact hK w hS
/-- Another operation, whether oi has come up before it or not. -/
theorem wpOp_apart {j : Nat} {oi oj : Oper} {v : Value} (hj : ops[j]? = some oj) (hap : oi.apart ops oj = true) (hsi : ∀ cs b, oi.op ≠ .select cs b) (hsj : ∀ cs b, oj.op ≠ .select cs b)
    (hQ : ∀ c a w, Q (.panic c) (a.put oi.dst v) w → Q (.panic c) a w) {K : Act → World → Prop} {a : Act} {w : World} {T : Act → Prop}
    (hT : ∀ a', execOp a'.eval oi = execOp a.eval oi → Region.wanted oi (yielded ops a'.tmps) = Region.wanted oi (yielded ops a.tmps) → T a') (h : wpOp P ops Q j K (a.put oi.dst v) w) :
    wpOp P ops Q j (fun a' w' => T a' ∧ K (a'.put oi.dst v) w') a w := by
  obtain ⟨p1, p2, p3⟩ := Oper.apart_spec hap
  have stay : ∀ u, T (a.put oj.dst u) := fun u => hT _ (execOp_put oi hsi a oj.dst u p3) (wanted_put oi a oj.dst u p3)
  have stayD : ∀ d u, T ({ a with defers := d :: a.defers }.put oj.dst u) := fun d u =>
    hT _ ((execOp_put oi hsi { a with defers := d :: a.defers } oj.dst u p3).trans rfl) ((wanted_put oi { a with defers := d :: a.defers } oj.dst u p3).trans rfl)
  unfold wpOp at h ⊢
  simp only [hj] at h ⊢
  rw [wanted_put oj a oi.dst v p1] at h
  by_cases hw : Region.wanted oj (yielded ops a.tmps) = true
  · rw [if_pos hw] at h ⊢
    rcases h with h | ⟨h1, h2⟩
    · left
      unfold Oper.wp at h ⊢
      rw [execOp_put oj hsj a oi.dst v p1] at h
      cases hr : (execOp a.eval oj).run P w with
      | halt x w' =>
        rw [hr] at h
        cases x with
        | panic u => exact hQ _ _ _ h
        | _ => exact h
      | ok n w' =>
        rw [hr] at h
        cases n with
        | value u => exact ⟨stay u, by rw [← Act.put_comm a v u p2]; exact h⟩
        | skip => exact ⟨stay _, by rw [← Act.put_comm a v undef p2]; exact h⟩
        | defer d =>
          refine ⟨stayD d _, ?_⟩
          rw [← Act.put_comm _ v undef p2, ← Act.put_defers]
          exact h
        | enter f args =>
          refine Calls.mono h fun e w'' he => ?_
          cases e with
          | returned u => exact ⟨stay u, by rw [← Act.put_comm a v u p2]; exact he⟩
          | panicked c => exact hQ _ _ _ he
          | outgrown => exact he
        | row r args => exact Rows.mono h fun u w'' he => ⟨stay u, by rw [← Act.put_comm a v u p2]; exact he⟩
        | _ => exact h
    · exact .inr ⟨by unfold Oper.asks at h1 ⊢; rw [execOp_put oj hsj a oi.dst v p1] at h1; exact h1, h2⟩
  · rw [if_neg hw] at h ⊢
    exact ⟨stay _, by rw [← Act.put_comm a v undef p2]; exact h⟩

theorem wpAnyU_first {i : Nat} (hik : i ∉ ks) {oi : Oper} {v : Value} (hi : ops[i]? = some oi) (hsel : ∀ (j : Nat) (o : Oper) cs b, ops[j]? = some o → o.op ≠ .select cs b) (hQ : ∀ c a w, Q (.panic c) (a.put oi.dst v) w → Q (.panic c) a w) :
    ∀ (fuel : Nat) (listed : Array Bool) (a : Act),
      (∀ j oj, ops[j]? = some oj → j ≠ i → listed.getD j true = false → (∀ e ∈ oj.after, Region.binds md e = true → e.on ≠ i) → oi.apart ops oj = true) →
      i ∈ Region.ready md ops listed → Steady P ops S oi v a →
      wpAnyU P md ops Q S ks fuel (listed.setIfInBounds i true) (a.put oi.dst v) → wpAnyU P md ops Q S ks (fuel + 1) listed a := by
  intro fuel
  induction fuel with
  | zero =>
    intro listed a hfree hr hy H
    refine ⟨fun h0 => (by rw [h0] at hr; cases hr), fun j hj w hS => ?_⟩
    by_cases hji : j = i
    · subst hji
      exact hy.run hik hi hS fun w' hw' => ⟨hw', H⟩
    · have h1 := ready_mono hj hji
      rw [H.1] at h1
      cases h1
  | succ fuel ih =>
    intro listed a hfree hr hy H
    refine ⟨fun h0 => (by rw [h0] at hr; cases hr), fun j hj w hS => ?_⟩
    by_cases hji : j = i
    · subst hji
      exact hy.run hik hi hS fun w' hw' => ⟨hw', H⟩
    · obtain ⟨hjun, oj, hoj, hall⟩ := mem_ready.1 hj
      have hnot : ∀ e ∈ oj.after, Region.binds md e = true → e.on ≠ i := fun e he hb heq => by
        have g1 := hall e he hb
        have g0 := (mem_ready.1 hr).1
        rw [heq] at g1
        rcases Nat.lt_or_ge i listed.size with h' | h'
        · simp [h'] at g0 g1; rw [g0] at g1; cases g1
        · simp [Array.getElem?_eq_none h'] at g1
      have hap := hfree j oj hoj hji hjun hnot
      have h1 := H.2 j (ready_mono hj hji) w (by rw [marked_other hik]; exact hS)
      have h2 := wpOp_apart hoj hap (fun cs b => hsel i oi cs b hi) (fun cs b => hsel j oj cs b hoj) hQ (fun a' e1 e2 => hy.same e1 e2) h1
      refine wpOp_mono (fun a' w' h3 => ?_) h2
      have hfree' : ∀ j2 o2, ops[j2]? = some o2 → j2 ≠ i → (listed.setIfInBounds j true).getD j2 true = false → (∀ e ∈ o2.after, Region.binds md e = true → e.on ≠ i) → oi.apart ops o2 = true := fun j2 o2 h4 h5 h6 h7 => by
        refine hfree j2 o2 h4 h5 ?_ h7
        by_cases hjk : j = j2
        · subst hjk; exact hjun
        · rw [getD_set_ne true hjk] at h6; exact h6
      refine ⟨?_, ih (listed.setIfInBounds j true) a' hfree' (ready_mono hr (Ne.symm hji)) h3.1 ?_⟩
      · have := h3.2.1
        rw [Array.setIfInBounds_comm _ _ (Ne.symm hji), marked_other hik] at this
        exact this
      · rw [Array.setIfInBounds_comm _ _ hji]
        exact h3.2.2
/-- Number i, but the store, taken first. -/
theorem wpAnyU_take {i : Nat} {oi : Oper} {v : Value} {fuel : Nat} {listed : Array Bool} {a : Act} (hik : i ∉ ks) (hi : ops[i]? = some oi) (hs : Region.noSelect ops = true) (hf : Region.free md ops listed i = true) (hr : (Region.ready md ops listed).contains i = true)
    (hQ : ∀ c a w, Q (.panic c) (a.put oi.dst v) w → Q (.panic c) a w) (hy : Steady P ops S oi v a)
    (h : wpAnyU P md ops Q S ks fuel (listed.setIfInBounds i true) (a.put oi.dst v)) : wpAnyU P md ops Q S ks (fuel + 1) listed a :=
  wpAnyU_first hik hi (Region.noSelect_spec hs) hQ fuel listed a (Region.free_spec hi hf) (by simpa using hr) hy h
/-- One of ks, where nothing else is ready. -/
theorem wpAnyU_turn {i : Nat} {oi : Oper} {v : Value} {fuel : Nat} {listed : Array Bool} {a : Act} {b b' : List Bool} (hi : ops[i]? = some oi) (hr : Region.ready md ops listed = [i]) (hb : marked ks listed = b) (hb' : marked ks (listed.setIfInBounds i true) = b') (hw : Region.wanted oi (yielded ops a.tmps) = true)
    (hg : ∀ w, S b w → Gives P ((execOp a.eval oi).run P w) v (S b')) (h : wpAnyU P md ops Q S ks fuel (listed.setIfInBounds i true) (a.put oi.dst v)) : wpAnyU P md ops Q S ks (fuel + 1) listed a :=
  ⟨fun h0 => (by rw [h0] at hr; cases hr), fun j hj w hS => by
    have hj2 := hj
    rw [hr] at hj2
    simp only [List.mem_singleton] at hj2
    subst hj2
    rw [hb] at hS
    rw [hb']
    unfold wpOp
    simp only [hi]
    rw [hw, if_pos rfl]
    exact .inl (Gives.upon (hg w hS) fun w' hw' => ⟨hw', h⟩)⟩
theorem wpAnyU_done {listed : Array Bool} {a : Act} {b : List Bool} (hr : Region.ready md ops listed = []) (hb : marked ks listed = b) (h : ∀ w, S b w → Q .normal a w) : ∀ fuel, wpAnyU P md ops Q S ks fuel listed a
  | 0 => ⟨hr, by rw [hb]; exact h⟩
  | _ + 1 => ⟨fun _ => by rw [hb]; exact h, fun i hi => by rw [hr] at hi; cases hi⟩
theorem wp_region_U {id : Nat} {a : Act} {w : World} (ks : List Nat) (hm : P.follows .mixedOrders = true) (S : List Bool → World → Prop) {b : List Bool} (hb : marked ks (Array.replicate ops.size false) = b) (hS : S b w.drew)
    (h : wpAnyU P .any ops Q S ks ops.size (Array.replicate ops.size false) a) : (Code.region id ops true).wp P Q a w :=
  wp_region_any hm (wpAny_of_U _ _ _ _ (by rw [hb]; exact hS) h)

theorem Steady.off {o : Oper} {a : Act} (hw : Region.wanted o (yielded ops a.tmps) = false) : Steady P ops S o undef a := .inr ⟨hw, rfl⟩
theorem Steady.plain {o : Oper} {v : Value} {a : Act} (hw : Region.wanted o (yielded ops a.tmps) = true) (h : ∀ b w, S b w → (execOp a.eval o).run P w = .ok (.value v) w) : Steady P ops S o v a :=
  .inl ⟨hw, fun b w hS => by rw [h b w hS]; exact ⟨rfl, hS⟩⟩
theorem Steady.call {o : Oper} {v : Value} {a : Act} (hw : Region.wanted o (yielded ops a.tmps) = true) {f : FuncId} {args : Array Value} (hr : ∀ w, (execOp a.eval o).run P w = .ok (.enter f args) w)
    (h : ∀ b w, S b w → Calls P f args w fun e w' => e = .returned v ∧ S b w') : Steady P ops S o v a :=
  .inl ⟨hw, fun b w hS => by rw [hr w]; exact h b w hS⟩
/-- An operation that stores a whole row. -/
theorem store_gives {o : Oper} {ρ : Operand → Value} {ty : TypeId} {x y : Operand} (ho : o.op = .store ty x y) {W : World} (g : Nat) (cells : Array Value) (hx : ρ x = .pointer (some ⟨g, 0, none⟩)) (hy : ρ y = .agg cells)
    {t : TypeId} {old : Array Value} (hg : rowIs W g old t) (hi : (P.info? ty).map (·.size) = some cells.size) (hold : old.size = cells.size) (h1 : cells.all (·.oneCell') = true) {R : World → Prop} (hR : R (W.setRow g cells)) : Gives P ((execOp ρ o).run P W) undef R := by
  have e : (execOp ρ o).run P W = .ok (.value undef) (W.setRow g cells) ∨ (execOp ρ o).run P W = .ok .skip (W.setRow g cells) := by
    unfold execOp
    have hr := run_storeVar_row (P := P) W g t ty old cells hg hi hold h1
    simp [ho, hx, hy, Instr.storeAt, Instr.sureAddr, hr]
  rcases e with e | e
  · rw [e]; exact ⟨rfl, hR⟩
  · rw [e]; exact ⟨rfl, hR⟩
theorem turn_store {o : Oper} {a : Act} {ty : TypeId} {x y : Operand} (ho : o.op = .store ty x y) (g : Nat) (cells : Array Value) (hx : a.eval x = .pointer (some ⟨g, 0, none⟩)) (hy : a.eval y = .agg cells)
    (hi : (P.info? ty).map (·.size) = some cells.size) (h1 : cells.all (·.oneCell') = true) {R R' : World → Prop} (h : ∀ W, R W → ∃ old t, rowIs W g old t ∧ old.size = cells.size ∧ R' (W.setRow g cells)) : ∀ W, R W → Gives P ((execOp a.eval o).run P W) undef R' :=
  fun W hS => by
    obtain ⟨old, t, g1, g2, g3⟩ := h W hS
    exact store_gives ho g cells hx hy g1 hi g2 h1 g3
theorem turn_alloc {o : Oper} {a : Act} {g : Nat} {zs : Array Value} {t : TypeId} (hr : ∀ W, (execOp a.eval o).run P W = .ok (.value (.pointer (some ⟨W.heap.size, 0, none⟩))) (W.alloc (.cells zs t))) {R R' : World → Prop}
    (h : ∀ W, R W → W.heap.size = g ∧ R' (W.alloc (.cells zs t))) : ∀ W, R W → Gives P ((execOp a.eval o).run P W) (.pointer (some ⟨g, 0, none⟩)) R' :=
  fun W hS => by
    obtain ⟨rfl, h2⟩ := h W hS
    rw [hr W]
    exact ⟨rfl, h2⟩
end
/-- Below B from w0 on; the box g; the block r, which the region stores into. -/
def HeldS (w0 : World) (B : Nat) (g : Nat) (cs : Array Value) (t : TypeId) (r : Nat) (zs ds : Array Value) (u : TypeId) : List Bool → World → Prop := fun b W =>
  Below B w0 W ∧ B ≤ W.heap.size ∧ rowIs W g cs t ∧ rowIs W r (if b.headD true then ds else zs) u
theorem HeldS.below {w0 : World} {B g : Nat} {cs : Array Value} {t : TypeId} {r : Nat} {zs ds : Array Value} {u : TypeId} {b : List Bool} {W W' : World} (h : HeldS w0 B g cs t r zs ds u b W) (hb : Below W.heap.size W W') : HeldS w0 B g cs t r zs ds u b W' :=
  ⟨h.1.trans (hb.mono h.2.1), Nat.le_trans h.2.1 hb.size, h.2.2.1.below hb, h.2.2.2.below hb⟩
theorem HeldS.drew {w0 : World} {B g : Nat} {cs : Array Value} {t : TypeId} {r : Nat} {zs ds : Array Value} {u : TypeId} {b : List Bool} {W : World} (h : HeldS w0 B g cs t r zs ds u b W) : HeldS w0 B g cs t r zs ds u b W.drew := ⟨h.1.drew, h.2⟩
theorem HeldS.stored {w0 : World} {B g : Nat} {cs : Array Value} {t : TypeId} {r : Nat} {zs ds : Array Value} {u : TypeId} {W : World} (h : HeldS w0 B g cs t r zs ds u [false] W) (hr : B ≤ r) (hgr : g ≠ r) : HeldS w0 B g cs t r zs ds u [true] (W.setRow r ds) :=
  ⟨below_setRow h.1 hr _, Nat.le_trans h.2.1 (by simp [World.setRow]), h.2.2.1.setRow_other ds hgr, h.2.2.2.setRow ds⟩
/-- Below B from w0 on; the box g. -/
def BoxS (w0 : World) (B : Nat) (g : Nat) (cs : Array Value) (t : TypeId) : List Bool → World → Prop := fun _ W => Below B w0 W ∧ B ≤ W.heap.size ∧ rowIs W g cs t
theorem BoxS.below {w0 : World} {B g : Nat} {cs : Array Value} {t : TypeId} {b : List Bool} {W W' : World} (h : BoxS w0 B g cs t b W) (hb : Below W.heap.size W W') : BoxS w0 B g cs t b W' :=
  ⟨h.1.trans (hb.mono h.2.1), Nat.le_trans h.2.1 hb.size, h.2.2.below hb⟩
theorem BoxS.drew {w0 : World} {B g : Nat} {cs : Array Value} {t : TypeId} {b : List Bool} {W : World} (h : BoxS w0 B g cs t b W) : BoxS w0 B g cs t b W.drew := ⟨h.1.drew, h.2⟩
/-- What stood in W1 stands; a block is made behind it, and stored into. -/
def NewS (W1 : World) (zs cs : Array Value) (t : TypeId) : List Bool → World → Prop := fun b W =>
  Below W1.heap.size W1 W ∧ (match b with | [false, _] => W.heap.size = W1.heap.size | [true, false] => rowIs W W1.heap.size zs t | _ => rowIs W W1.heap.size cs t)
theorem NewS.begin (W1 : World) (zs cs : Array Value) (t : TypeId) : NewS W1 zs cs t [false, false] W1.drew := ⟨(Below.refl _ _).drew, rfl⟩
theorem NewS.made {W1 : World} {zs cs : Array Value} {t : TypeId} {W : World} (h : NewS W1 zs cs t [false, false] W) : W.heap.size = W1.heap.size ∧ NewS W1 zs cs t [true, false] (W.alloc (.cells zs t)) :=
  ⟨h.2, h.1.alloc (Nat.le_of_eq h.2.symm) _, rowIs_new_at _ _ _ _ h.2.symm⟩
theorem NewS.stored {W1 : World} {zs cs : Array Value} {t : TypeId} {W : World} (h : NewS W1 zs cs t [true, false] W) (hz : zs.size = cs.size) : ∃ old t', rowIs W W1.heap.size old t' ∧ old.size = cs.size ∧ NewS W1 zs cs t [true, true] (W.setRow W1.heap.size cs) :=
  ⟨zs, t, h.2, hz, below_setRow h.1 (Nat.le_refl _) _, h.2.setRow cs⟩
/-- A function whose first result lies in a block of its own, the others in slots. -/
theorem results_row2 {P : Program} {fn : Func} {a c : Tmp} {t e : TypeId} {d : TypeDesc} (h : fn.results = #[.cell a t, .tmp c]) (tmps : Array Value) (w : World) (g : Nat) (cs : Array Value)
    (hp : tmps.getD a undef = .pointer (some ⟨g, 0, none⟩)) (hg : rowIs w g cs e) (hu : P.underlying t = some d) (hd : (match d with | .struct _ | .array _ _ => true | _ => false) = true) (hi : (P.info? t).map (·.size) = some cs.size) :
    (results fn tmps).run P w = .ok (.tuple #[.agg cs, tmps.getD c undef]) w := by
  have h1 := run_loadVar_row (P := P) w g e t cs (0, 0) d hg hu hd hi
  have hp' : tmps[a]?.getD undef = .pointer (some ⟨g, 0, none⟩) := by simpa using hp
  simp [results, h, hp', asAddr, h1]
theorem results_row3 {P : Program} {fn : Func} {a c f : Tmp} {t e : TypeId} {d : TypeDesc} (h : fn.results = #[.cell a t, .tmp c, .tmp f]) (tmps : Array Value) (w : World) (g : Nat) (cs : Array Value)
    (hp : tmps.getD a undef = .pointer (some ⟨g, 0, none⟩)) (hg : rowIs w g cs e) (hu : P.underlying t = some d) (hd : (match d with | .struct _ | .array _ _ => true | _ => false) = true) (hi : (P.info? t).map (·.size) = some cs.size) :
    (results fn tmps).run P w = .ok (.tuple #[.agg cs, tmps.getD c undef, tmps.getD f undef]) w := by
  have h1 := run_loadVar_row (P := P) w g e t cs (0, 0) d hg hu hd hi
  have hp' : tmps[a]?.getD undef = .pointer (some ⟨g, 0, none⟩) := by simpa using hp
  simp [results, h, hp', asAddr, h1]
end Go.Pantry
