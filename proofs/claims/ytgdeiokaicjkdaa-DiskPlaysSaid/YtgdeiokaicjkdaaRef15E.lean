/-
  The document's disk: New.
-/
import Derived.Test.YtgdeiokaicjkdaaRef15D
import Derived.Test.YtgdeiokaicjkdaaHeldA
import Derived.Test.YtgdeiokaicjkdaaHeldK
set_option linter.unusedVariables false
set_option linter.unusedSimpArgs false
namespace Go.Pantry
open Go.RowKit
theorem below_alloc2 (w : World) (a b : Obj) : Below w.heap.size w ((w.alloc a).alloc b) := (below_alloc w a).alloc (by simp) b
theorem madeCells_one (z : Value) (n : Nat) : madeCells #[z] (n * 1) = Array.replicate n z := by
  apply Array.ext
  · simp [size_madeCells]
  · intro i h1 h2
    simp [madeCells, Nat.mod_one]
/-- make([]T, n) of one cell: n noughts -/
theorem make_noughts {P : Program} (t e : TypeId) {z : Value} {bytes : Nat} (ht : P.underlying t = some (.slice e)) (hi : (P.info? e).map (fun i => (i.zero, i.size, i.bytes)) = some (some z, 1, bytes)) (hz : z.cells = #[z]) (hby : bytes ≤ 4096) (n : Nat) (hn : n < 4294967296) :
    ∀ w : World, (Instr.makeSlice t (.int .i64 (n : Int)) (.int .i64 (n : Int))).run P w = .ok (.slice (some ⟨w.heap.size, 0, none⟩) n n) (w.alloc (.cells (Array.replicate n z) e)) := fun w => by
  obtain ⟨i0, a1, a2, a3, a4⟩ := info_parts hi
  have hbz : (i0.bytes : Int) * (n : Int) ≤ 281474976710656 := by
    rw [a4]
    have : bytes * n ≤ 4096 * 4294967296 := Nat.mul_le_mul hby (by omega)
    have h2 : ((bytes * n : Nat) : Int) ≤ 281474976710656 := by omega
    rwa [Int.natCast_mul] at h2
  have h := run_make (P := P) w t e i0 z ht a1 a2 .i64 .i64 (n : Int) (n : Int) (by omega) (by omega) hbz (by omega)
  rw [h, a3, hz, Int.toNat_natCast, madeCells_one]
theorem ownsRow_noughts {w : World} {g : Nat} {e : TypeId} {n : Nat} {z : Value} (h : rowIs w g (Array.replicate n z) e) (hz : z.oneCell' = true) (hn : n ≤ maxLen) (B : Nat) (hB : B ≤ g) : w.ownsRow B e 1 (.slice (some ⟨g, 0, none⟩) n n) n (List.replicate n z) := by
  refine ⟨by simp, .inr ⟨g, n, Array.replicate n z, rfl, hB, h, Nat.le_refl _, hn, by simp, by simp⟩⟩
end Go.Pantry
namespace Go.Proofs.Ytgdeiokaicjkdaa
open Go.RowKit Go.Pantry

/-- a sector more -/
theorem DAt.more {S : Nat → Prop} {w w2 w3 : World} {g : Nat} {vs vp vb v' : Value} {ks kp : List Value} {left : Int} {arm : Bool} {m : DiskM} {N : Nat} (h : DAt w g vs vp vb ks kp left arm S m) (hN : m.stands.length = N) {f : Nat} (hf : f = w.heap.size) (hb : Below w.heap.size w w2) {t : TypeId} (hr : rowIs w2 f (Array.replicate 64 (.int .u8 0)) t)
    (ho : w3.ownsRow 0 29 1 v' (N + 1) (ks ++ [.slice (some ⟨f, 0, none⟩) 64 64])) (hg : w2.grownBy w3 vs.ownBlock) (hi : In (fun k => vs.ownBlock = some k ∨ w2.heap.size ≤ k) v') :
    DAt (w3.setCell ⟨g, 0, none⟩ v') g v' vp vb (ks ++ [.slice (some ⟨f, 0, none⟩) 64 64]) kp left arm (fun x => S x ∨ x = f) { m with stands := m.stands ++ [blankS] } ∧ Kept (fun x => x = g ∨ vs.ownBlock = some x) w (w3.setCell ⟨g, 0, none⟩ v') ∧ In (fun k => vs.ownBlock = some k ∨ w.heap.size ≤ k) v' := by
  subst hN
  have hlt : ∀ x, FD g vs vp vb S x → x < w.heap.size := fun x hx => h.lt hx
  have h2 := h.kept (Kept.of_below (X := fun _ => False) hb) (fun _ _ h => h)
  have hf2 := hr.lt
  have hgl := hlt g (.inl rfl)
  have hsz := hb.size
  have k3 : Kept (fun x => vs.ownBlock = some x) w2 w3 := (Kept.refl (fun x => vs.ownBlock = some x) w2).grown hg (fun k hk _ => hk)
  have kg := (Kept.refl (fun x => x = g) w3).setCell (i := 0) (.inl rfl) v'
  have hgs : ¬ vs.ownBlock = some g := fun e => (h.inS g e).1 rfl
  have kall : Kept (fun x => x = g ∨ vs.ownBlock = some x) w2 (w3.setCell ⟨g, 0, none⟩ v') := (k3.mono (Y := fun x => x = g ∨ vs.ownBlock = some x) (fun x hx _ => .inr hx)).trans kg (fun x hx _ => .inl hx)
  have hrow := h2.row.kept k3 hgs
  have hv'g : In (fun x => x ≠ g) v' := fun x hx => by
    rcases hi x hx with e | e
    · exact (h.inS x e).1
    · omega
  have hSn : ∀ x, S x → x ≠ g ∧ ¬ vs.ownBlock = some x := fun x hx => ⟨fun e => h.sg (e ▸ hx), fun e => (h.inS x e).2 hx⟩
  have hfn : f ≠ g ∧ ¬ vs.ownBlock = some f := ⟨by omega, fun e => by have := hlt f (.inr (.inl e)); omega⟩
  have hbf : Bytes w2 (.slice (some ⟨f, 0, none⟩) 64 64) blankS := by
    refine ⟨some ⟨f, 0, none⟩, 64, rfl, by decide, ⟨some ⟨f, 0, none⟩, 64, rfl, fun j u hj => ⟨f, 0, rfl, ?_⟩, fun e => by cases e⟩⟩
    rw [Nat.zero_add, hr.cell]
    unfold blankS at hj
    rw [List.map_replicate] at hj
    rw [← Array.getElem?_toList, Array.toList_replicate]
    exact hj
  have hnS : ∀ x, S x ∨ x = f → ¬ (x = g ∨ vs.ownBlock = some x) := fun x hx e => by
    rcases hx with hx | rfl
    · rcases e with e | e
      · exact (hSn x hx).1 e
      · exact (hSn x hx).2 e
    · rcases e with e | e
      · exact hfn.1 e
      · exact hfn.2 e
  refine ⟨⟨?_, ?_, ownsRow_kept h2.op kall (fun x hx e => ?_), ownsRow_kept h2.ob kall (fun x hx e => ?_), (((h2.rs.mono (fun x hx => .inl hx)).snoc hbf (fun x hx => .inr (by cases hx; rfl))).kept kall hnS), (h2.rp.mono (fun x hx => .inl hx)).kept kall hnS, h.off, h.on, fun x hx => ⟨hv'g x hx, fun hS => ?_⟩, fun x hx => ⟨(h.inP x hx).1, fun hS => ?_, fun e => ?_⟩, fun x hx => ⟨(h.inB x hx).1, fun hS => ?_, fun e => ?_, (h.inB x hx).2.2.2⟩, fun hS => ?_, fun x hx => ?_⟩, ((Kept.of_below (X := fun x => x = g ∨ vs.ownBlock = some x) hb).trans kall (fun x hx _ => hx)), fun x hx => ?_⟩
  · have := hrow.setCell 0 v'
    simpa using this
  · have hl : (m.stands ++ [blankS]).length = m.stands.length + 1 := by simp
    rw [hl]
    exact ownsRow_kept ho kg hv'g
  · rcases e with e | e
    · exact (h.inP x hx).1 e
    · exact (h.inP x hx).2.2 e
  · rcases e with e | e
    · exact (h.inB x hx).1 e
    · exact (h.inB x hx).2.2.1 e
  · rcases hi x hx with e | e
    · rcases hS with hS | hS
      · exact (h.inS x e).2 hS
      · exact hfn.2 (hS ▸ e)
    · rcases hS with hS | hS
      · have := h.sl x hS; omega
      · omega
  · rcases hS with hS | hS
    · exact (h.inP x hx).2.1 hS
    · have := hlt x (.inr (.inr (.inl hx))); omega
  · rcases hi x e with e | e
    · exact (h.inP x hx).2.2 e
    · have := hlt x (.inr (.inr (.inl hx))); omega
  · rcases hS with hS | hS
    · exact (h.inB x hx).2.1 hS
    · have := hlt x (.inr (.inr (.inr (.inl hx)))); omega
  · rcases hi x e with e | e
    · exact (h.inB x hx).2.2.1 e
    · have := hlt x (.inr (.inr (.inr (.inl hx)))); omega
  · rcases hS with hS | hS
    · exact h.sg hS
    · exact hfn.1 hS.symm
  · have h1 := kall.size
    rcases hx with hx | rfl
    · have := h.sl x hx; omega
    · omega
  · rcases hi x hx with e | e
    · exact .inl e
    · exact .inr (by omega)
/-- an empty disk: its rows of noughts are laid -/
theorem dLaid {W : World} {n g gp gb : Nat} (hn : n ≤ 4096) (hg : rowIs W g #[.slice none 0 0, .slice (some ⟨gp, 0, none⟩) n n, .slice (some ⟨gb, 0, none⟩) n n, .int .i64 0, .bool false, .bool false] 44) (hp : rowIs W gp (Array.replicate n (.slice none 0 0)) 29) (hb : rowIs W gb (Array.replicate n (.bool false)) 4) (h1 : gp ≠ g) (h2 : gb ≠ g) (h3 : gp ≠ gb) :
    DAt W g (.slice none 0 0) (.slice (some ⟨gp, 0, none⟩) n n) (.slice (some ⟨gb, 0, none⟩) n n) [] (List.replicate n (.slice none 0 0)) 0 false (fun _ => False) ⟨[], List.replicate n [], List.replicate n false, none, false⟩ := by
  have hnm : n ≤ maxLen := by unfold maxLen; omega
  refine ⟨hg, World.ownsRow_nil _ _ _ _, ?_, ?_, ⟨rfl, fun k c s hc => by cases hc⟩, ⟨by simp, fun k c s hc hs => ?_⟩, fun _ => rfl, (fun k hk => by cases hk), In.nil _ _, fun x hx => ?_, fun x hx => ?_, fun h => h, fun _ h => h.elim⟩
  · show W.ownsRow 0 _ 1 _ (List.replicate n ([] : List UInt8)).length _
    rw [List.length_replicate]
    exact ownsRow_noughts hp rfl hnm 0 (Nat.zero_le _)
  · show W.ownsRow 0 _ 1 _ (List.replicate n false).length ((List.replicate n false).map .bool)
    rw [List.length_replicate, List.map_replicate]
    exact ownsRow_noughts hb rfl hnm 0 (Nat.zero_le _)
  · have e1 := (List.mem_replicate.1 (List.mem_of_getElem? hc)).2
    have e2 := (List.mem_replicate.1 (List.mem_of_getElem? hs)).2
    subst e1 e2
    exact ⟨bytes_nil _, In.nil _ _⟩
  · cases hx
    exact ⟨h1, fun h => h, fun e => by cases e⟩
  · cases hx
    exact ⟨h2, fun h => h, (fun e => by cases e), fun e => h3 (by injection e)⟩
set_option maxRecDepth 8000 in
set_option maxHeartbeats 8000000 in
theorem dNew_any (n : Nat) (w : World) (hn0 : 0 < n) (hn : n ≤ 4096) :
    Calls Try.prog 12 #[.int .i64 (n : Int)] w fun e w' => ∃ g vs vp vb ks kp left arm S, e = .returned (.pointer (some ⟨g, 0, none⟩)) ∧ DAt w' g vs vp vb ks kp left arm S (newDk n) ∧ Below w.heap.size w w' ∧ ∀ k, FD g vs vp vb S k → w.heap.size ≤ k := by
  have mb := make_noughts (P := Try.prog) 30 4 (z := .bool false) (bytes := 1) Try.underlying30 (by kernel_rfl) rfl (by decide) n (by omega)
  have ms := make_noughts (P := Try.prog) 42 29 (z := .slice none 0 0) (bytes := 24) Try.underlying42 (by kernel_rfl) rfl (by decide) n (by omega)
  have m64 : ∀ w : World, (Instr.makeSlice 29 (.int .i64 64) (.int .i64 64)).run Try.prog w = .ok (.slice (some ⟨w.heap.size, 0, none⟩) 64 64) (w.alloc (.cells (Array.replicate 64 (.int .u8 0)) 5)) := fun _ => by kernel_rfl
  go_enter Try.func12, Try.ntmps12
  go_wp2_with fail
  go_region
  · obtain ⟨W, hW⟩ : ∃ W, (((w.alloc (Obj.cells (Array.replicate n (Value.bool false)) 4)).alloc (Obj.cells (Array.replicate n (Value.slice none 0 0)) 29)).alloc (Obj.cells #[Value.slice none 0 0, Value.slice (some { block := w.heap.size + 1, off := 0 }) n n, Value.slice (some { block := w.heap.size, off := 0 }) n n, Value.int IntKind.i64 0, Value.bool false, Value.bool false] 44)).drew = W := ⟨_, rfl⟩
    have hB : Below w.heap.size w W := by rw [← hW]; exact (((((Below.refl _ _).alloc (Nat.le_refl _) _).alloc (by simp) _).alloc (by first | (simp; done) | (simp; omega)) _).drew)
    have hD : DAt W (w.heap.size + 1 + 1) (.slice none 0 0) (.slice (some ⟨w.heap.size + 1, 0, none⟩) n n) (.slice (some ⟨w.heap.size, 0, none⟩) n n) [] (List.replicate n (.slice none 0 0)) 0 false (fun _ => False) ⟨[], List.replicate n [], List.replicate n false, none, false⟩ := by
      refine dLaid hn ?_ ?_ ?_ (by omega) (by omega) (by omega)
      · rw [← hW]; exact (rowIs_new_at _ _ _ _ (by simp)).below (Below.refl _ _).drew
      · rw [← hW]; exact (rowIs_new_at _ _ _ _ (by simp)).below ((below_alloc _ _).drew)
      · rw [← hW]; exact ((rowIs_new _ _ _).below (below_alloc _ _)).below (((below_alloc _ _)).drew)
    rw [hW]
    generalize hgg : w.heap.size + 1 + 1 = g at hD ⊢
    generalize hgp : w.heap.size + 1 = gp at hD ⊢
    generalize hgb : w.heap.size = gb at hD ⊢
    have HP : w.heap.size ≤ g ∧ w.heap.size ≤ gp ∧ w.heap.size ≤ gb := by omega
    have HI : Hid (∃ (k : Nat) (vs : Value) (ks : List Value) (S : Nat → Prop), k ≤ n ∧ Value.int .i64 0 = .int .i64 (k : Int) ∧ DAt W g vs (.slice (some ⟨gp, 0, none⟩) n n) (.slice (some ⟨gb, 0, none⟩) n n) ks (List.replicate n (.slice none 0 0)) 0 false S ⟨List.replicate k blankS, List.replicate n [], List.replicate n false, none, false⟩ ∧ Below w.heap.size w W ∧ In (fun x => w.heap.size ≤ x) vs ∧ ∀ x, S x → w.heap.size ≤ x) := ⟨0, _, _, _, Nat.zero_le _, rfl, hD, hB, In.nil _ _, fun _ h => False.elim h⟩
    have HPH := hid HP
    clear hW hB hD hgp hgb hgg HP mb ms
    go_wp2_with fail
    go_loopw [4] (fun i wr => ∃ (k : Nat) (vs : Value) (ks : List Value) (S : Nat → Prop), k ≤ n ∧ i = .int .i64 (k : Int) ∧ DAt wr g vs (.slice (some ⟨gp, 0, none⟩) n n) (.slice (some ⟨gb, 0, none⟩) n n) ks (List.replicate n (.slice none 0 0)) 0 false S ⟨List.replicate k blankS, List.replicate n [], List.replicate n false, none, false⟩ ∧ Below w.heap.size w wr ∧ In (fun x => w.heap.size ≤ x) vs ∧ ∀ x, S x → w.heap.size ≤ x) (fun i _ => n - (intOf i).toNat)
    case atStart => exact HI.out
    case round =>
      clear HI
      obtain ⟨k, vs, ks, S, hk, rfl, hD, hB, hV, hS⟩ := hrel
      by_cases hkl : k < n
      case neg =>
        have hke : k = n := by omega
        subst hke
        have HD := hid (And.intro hD (And.intro hB (And.intro hV hS)))
        clear hD hB hV hS
        go_wp2_with fail
        go_ret
        refine ⟨_, _, _, _, _, _, _, _, _, rfl, HD.out.1, HD.out.2.1, fun x hx => ?_⟩
        rcases hx with rfl | hx | hx | hx | hx
        · exact HPH.out.1
        · exact HD.out.2.2.1 x hx
        · cases hx; exact HPH.out.2.1
        · cases hx; exact HPH.out.2.2
        · exact HD.out.2.2.2 x hx
      have hkz : (k : Int) < (n : Int) := by omega
      have hwk : IntKind.i64.wrap ((k : Int) + 1) = ((k + 1 : Nat) : Int) := by rw [IntWalk.i64_in _ (by omega)]; simp
      obtain ⟨ao, cv, rfl⟩ := row_form15 hD.os
      have hL : (List.replicate k blankS).length = k := List.length_replicate ..
      simp only [hL] at hD hV ⊢
      have hd0 := hD.drew
      have hc0 := hd0.row.cell 0
      have HD := hid (And.intro hD (And.intro hB (And.intro hV (And.intro hS hL))))
      clear hD hB hV hS hd0 hL
      go_wp2_with fail
      refine wp_region_K 10 (by kernel_rfl) (fun w' => w'.cell? ⟨g, 0, none⟩ = some (.slice ao k cv)) (by exact hc0) (fun hH => ?_)
      refine wpAnyK_take (i := 0) (v := ?_) rfl (by kernel_rfl) (by kernel_rfl) (by kernel_rfl) (by decide) (by kernel_rfl) (fun _ _ _ h => h) (Or.inl ⟨by kernel_rfl, ?_⟩) hH ?_
      rotate_left
      · intro W' hS
        go_simp
        first | done | with_reducible rfl
      try simp only [Act.put, List.getElem_toArray, List.getElem_cons_succ, List.getElem_cons_zero, List.setIfInBounds_toArray, List.set_cons_zero, List.set_cons_succ]
      refine wpAnyK_take (i := 1) (v := ?_) rfl (by kernel_rfl) (by kernel_rfl) (by kernel_rfl) (by decide) (by kernel_rfl) (fun _ _ _ h => h) (Or.inl ⟨by kernel_rfl, ?_⟩) hH ?_
      rotate_left
      · intro W' hS
        go_simp
        first | done | with_reducible rfl
      try simp only [Act.put, List.getElem_toArray, List.getElem_cons_succ, List.getElem_cons_zero, List.setIfInBounds_toArray, List.set_cons_zero, List.set_cons_succ]
      refine wpAnyK_take (i := 2) (v := ?_) rfl (by kernel_rfl) (by kernel_rfl) (by kernel_rfl) (by decide) (by kernel_rfl) (fun _ _ _ h => h) (Or.inl ⟨by kernel_rfl, ?_⟩) hH ?_
      rotate_left
      · intro W' hS
        go_simp
        first | done | with_reducible rfl
      try simp only [Act.put, List.getElem_toArray, List.getElem_cons_succ, List.getElem_cons_zero, List.setIfInBounds_toArray, List.set_cons_zero, List.set_cons_succ]
      refine wpAnyK_take (i := 3) (v := ?_) rfl (by kernel_rfl) (by kernel_rfl) (by kernel_rfl) (by decide) (by kernel_rfl) (fun _ _ _ h => h) (Or.inl ⟨by kernel_rfl, ?_⟩) hH ?_
      rotate_left
      · intro W' hS
        go_simp
        first | done | with_reducible rfl
      try simp only [Act.put, List.getElem_toArray, List.getElem_cons_succ, List.getElem_cons_zero, List.setIfInBounds_toArray, List.set_cons_zero, List.set_cons_succ]
      refine wpAnyK_take (i := 4) (v := ?_) rfl (by kernel_rfl) (by kernel_rfl) (by kernel_rfl) (by decide) (by kernel_rfl) (fun _ _ _ h => h) (Or.inl ⟨by kernel_rfl, ?_⟩) hH ?_
      rotate_left
      · intro W' hS
        go_simp
        first | done | with_reducible rfl
      try simp only [Act.put, List.getElem_toArray, List.getElem_cons_succ, List.getElem_cons_zero, List.setIfInBounds_toArray, List.set_cons_zero, List.set_cons_succ]
      refine wpAnyK_next (i := 5) (by kernel_rfl) rfl (by decide) (fun K hK => ?_)
      have hc4 := (HD.out.1.drew.row.below (below_alloc wr.drew (.cells (Array.replicate 64 (.int .u8 0)) 5))).cell 0
      go_simp
      refine hK.out _ _ hc4 (fun hH => ?_)
      clear hK K hc4
      try simp only [Act.put, List.getElem_toArray, List.getElem_cons_succ, List.getElem_cons_zero, List.setIfInBounds_toArray, List.set_cons_zero, List.set_cons_succ]
      refine wpAnyK_next (i := 6) (by kernel_rfl) rfl (by decide) (fun K hK => ?_)
      go_simp
      obtain ⟨W5, hW5⟩ : ∃ W5, ((wr.alloc (.cells (Array.replicate 64 (.int .u8 0)) 5)).alloc (.cells #[.slice (some ⟨wr.heap.size, 0, none⟩) 64 64] 29)).drew = W5 := ⟨_, rfl⟩
      have hb5 : Below wr.heap.size wr W5 := by rw [← hW5]; exact (below_alloc2 wr _ _).drew
      have hr5 : rowIs W5 wr.heap.size (Array.replicate 64 (.int .u8 0)) 5 := by rw [← hW5]; exact (rowIs_new _ _ _).below (below_alloc _ _).drew
      have hx5 : rowIs W5 (wr.heap.size + 1) #[.slice (some ⟨wr.heap.size, 0, none⟩) 64 64] 29 := by rw [← hW5]; exact (rowIs_new_at _ _ _ _ (by simp)).below (Below.refl _ _).drew
      have hc5 := (HD.out.1.row.below hb5).cell 0
      rw [hW5]
      refine hK.out _ _ hc5 (fun hH => ?_)
      clear hK K hc5 hW5
      try simp only [Act.put, List.getElem_toArray, List.getElem_cons_succ, List.getElem_cons_zero, List.setIfInBounds_toArray, List.set_cons_zero, List.set_cons_succ]
      refine wpAnyK_next (i := 7) (by kernel_rfl) rfl (by decide) (fun K hK => ?_)
      rw [if_pos (by kernel_rfl)]
      have ho5 : W5.ownsRow 0 29 1 (.slice ao k cv) k ks := by
        have := HD.out.1.os.below hb5
        rw [show (DiskM.stands ⟨List.replicate k blankS, List.replicate n [], List.replicate n false, none, false⟩).length = k from HD.out.2.2.2.2] at this
        exact this
      refine wp_append_gen W5 (.tmp 20) (.tmp 22) 42 rfl 0 29 (z := .slice none 0 0) (sz := 1) (bytes := 24) Try.underlying42 (by kernel_rfl) rfl (by decide) (by decide) (v := .slice ao k cv) rfl ho5 ⟨wr.heap.size + 1, 0, none⟩ 1 1 [.slice (some ⟨wr.heap.size, 0, none⟩) 64 64] rfl (fun j u hj => ?_) (fun u hu => by rw [List.mem_singleton.1 hu]; rfl) rfl (by omega) (Nat.zero_le _) (fun v6 w6 ho6 hg6 hi6 => ?_)
      · rw [addAt2, Nat.zero_add, hx5.cell j]; simpa using hj
      obtain ⟨a6, c6, rfl⟩ := row_form15 ho6
      obtain ⟨d6, q6, i6⟩ := HD.out.1.more HD.out.2.2.2.2 rfl hb5 hr5 ho6 hg6 hi6
      have r6 := (HD.out.1.row.below hb5).kept ((Kept.refl (fun x => (Value.slice ao k cv).ownBlock = some x) W5).grown hg6 (fun k hk _ => hk)) (fun e => (HD.out.1.inS g e).1 rfl)
      have hc6 := r6.cell 0
      have hf6 := r6.free 0
      have HM := hid (And.intro d6 (And.intro q6 i6))
      clear d6 q6 i6 r6 ho6 hg6 hi6 ho5 hx5 hr5 hb5
      refine hK.out _ _ hc6 (fun hH => ?_)
      clear hK K
      try simp only [Act.put, List.getElem_toArray, List.getElem_cons_succ, List.getElem_cons_zero, List.setIfInBounds_toArray, List.set_cons_zero, List.set_cons_succ]
      refine wpAnyK_next (i := 8) (by kernel_rfl) rfl (by decide) (fun K hK => ?_)
      go_simp
      refine hK.out _ _ hc6 (fun hH => ?_)
      clear hK K
      try simp only [Act.put, List.getElem_toArray, List.getElem_cons_succ, List.getElem_cons_zero, List.setIfInBounds_toArray, List.set_cons_zero, List.set_cons_succ]
      refine wpAnyK_take (i := 9) (v := ?_) rfl (by kernel_rfl) (by kernel_rfl) (by kernel_rfl) (by decide) (by kernel_rfl) (fun _ _ _ h => h) (Or.inl ⟨by kernel_rfl, ?_⟩) hH ?_
      rotate_left
      · intro W' hS
        go_simp
        first | done | with_reducible rfl
      try simp only [Act.put, List.getElem_toArray, List.getElem_cons_succ, List.getElem_cons_zero, List.setIfInBounds_toArray, List.set_cons_zero, List.set_cons_succ]
      refine wpAnyK_last (by kernel_rfl) rfl (fun K hK => ?_)
      go_simp
      refine hK.out _ _ ?_
      clear hK K
      try simp only [Act.put, List.getElem_toArray, List.getElem_cons_succ, List.getElem_cons_zero, List.setIfInBounds_toArray, List.set_cons_zero, List.set_cons_succ]
      refine wpAnyK_done (by kernel_rfl) ?_ _
      clear hH hc6 hf6
      go_wp2_with fail
      go_roundw
      case rel =>
        obtain ⟨d6, q6, i6⟩ := HM.out
        refine ⟨k + 1, _, _, _, hkl, by simp, by rw [List.replicate_succ']; exact d6, HD.out.2.1.trans (q6.below (fun x hx _ => ?_) HD.out.2.1.size), fun x hx => ?_, fun x hx => ?_⟩
        · rcases hx with rfl | hx
          · exact HPH.out.1
          · exact HD.out.2.2.1 x hx
        · rcases i6 x hx with e | e
          · exact HD.out.2.2.1 x e
          · have := HD.out.2.1.size; omega
        · rcases hx with e | e
          · exact HD.out.2.2.2.1 x e
          · have := HD.out.2.1.size; omega
      case measure => simp only [intOf]; omega
  · obtain ⟨W, hW⟩ : ∃ W, (((w.alloc (Obj.cells (Array.replicate n (Value.slice none 0 0)) 29)).alloc (Obj.cells (Array.replicate n (Value.bool false)) 4)).alloc (Obj.cells #[Value.slice none 0 0, Value.slice (some { block := w.heap.size, off := 0 }) n n, Value.slice (some { block := w.heap.size + 1, off := 0 }) n n, Value.int IntKind.i64 0, Value.bool false, Value.bool false] 44)).drew = W := ⟨_, rfl⟩
    have hB : Below w.heap.size w W := by rw [← hW]; exact (((((Below.refl _ _).alloc (Nat.le_refl _) _).alloc (by simp) _).alloc (by first | (simp; done) | (simp; omega)) _).drew)
    have hD : DAt W (w.heap.size + 1 + 1) (.slice none 0 0) (.slice (some ⟨w.heap.size, 0, none⟩) n n) (.slice (some ⟨w.heap.size + 1, 0, none⟩) n n) [] (List.replicate n (.slice none 0 0)) 0 false (fun _ => False) ⟨[], List.replicate n [], List.replicate n false, none, false⟩ := by
      refine dLaid hn ?_ ?_ ?_ (by omega) (by omega) (by omega)
      · rw [← hW]; exact (rowIs_new_at _ _ _ _ (by simp)).below (Below.refl _ _).drew
      · rw [← hW]; exact ((rowIs_new _ _ _).below (below_alloc _ _)).below (((below_alloc _ _)).drew)
      · rw [← hW]; exact (rowIs_new_at _ _ _ _ (by simp)).below ((below_alloc _ _).drew)
    rw [hW]
    generalize hgg : w.heap.size + 1 + 1 = g at hD ⊢
    generalize hgb : w.heap.size + 1 = gb at hD ⊢
    generalize hgp : w.heap.size = gp at hD ⊢
    have HP : w.heap.size ≤ g ∧ w.heap.size ≤ gp ∧ w.heap.size ≤ gb := by omega
    have HI : Hid (∃ (k : Nat) (vs : Value) (ks : List Value) (S : Nat → Prop), k ≤ n ∧ Value.int .i64 0 = .int .i64 (k : Int) ∧ DAt W g vs (.slice (some ⟨gp, 0, none⟩) n n) (.slice (some ⟨gb, 0, none⟩) n n) ks (List.replicate n (.slice none 0 0)) 0 false S ⟨List.replicate k blankS, List.replicate n [], List.replicate n false, none, false⟩ ∧ Below w.heap.size w W ∧ In (fun x => w.heap.size ≤ x) vs ∧ ∀ x, S x → w.heap.size ≤ x) := ⟨0, _, _, _, Nat.zero_le _, rfl, hD, hB, In.nil _ _, fun _ h => False.elim h⟩
    have HPH := hid HP
    clear hW hB hD hgp hgb hgg HP mb ms
    go_wp2_with fail
    go_loopw [4] (fun i wr => ∃ (k : Nat) (vs : Value) (ks : List Value) (S : Nat → Prop), k ≤ n ∧ i = .int .i64 (k : Int) ∧ DAt wr g vs (.slice (some ⟨gp, 0, none⟩) n n) (.slice (some ⟨gb, 0, none⟩) n n) ks (List.replicate n (.slice none 0 0)) 0 false S ⟨List.replicate k blankS, List.replicate n [], List.replicate n false, none, false⟩ ∧ Below w.heap.size w wr ∧ In (fun x => w.heap.size ≤ x) vs ∧ ∀ x, S x → w.heap.size ≤ x) (fun i _ => n - (intOf i).toNat)
    case atStart => exact HI.out
    case round =>
      clear HI
      obtain ⟨k, vs, ks, S, hk, rfl, hD, hB, hV, hS⟩ := hrel
      by_cases hkl : k < n
      case neg =>
        have hke : k = n := by omega
        subst hke
        have HD := hid (And.intro hD (And.intro hB (And.intro hV hS)))
        clear hD hB hV hS
        go_wp2_with fail
        go_ret
        refine ⟨_, _, _, _, _, _, _, _, _, rfl, HD.out.1, HD.out.2.1, fun x hx => ?_⟩
        rcases hx with rfl | hx | hx | hx | hx
        · exact HPH.out.1
        · exact HD.out.2.2.1 x hx
        · cases hx; exact HPH.out.2.1
        · cases hx; exact HPH.out.2.2
        · exact HD.out.2.2.2 x hx
      have hkz : (k : Int) < (n : Int) := by omega
      have hwk : IntKind.i64.wrap ((k : Int) + 1) = ((k + 1 : Nat) : Int) := by rw [IntWalk.i64_in _ (by omega)]; simp
      obtain ⟨ao, cv, rfl⟩ := row_form15 hD.os
      have hL : (List.replicate k blankS).length = k := List.length_replicate ..
      simp only [hL] at hD hV ⊢
      have hd0 := hD.drew
      have hc0 := hd0.row.cell 0
      have HD := hid (And.intro hD (And.intro hB (And.intro hV (And.intro hS hL))))
      clear hD hB hV hS hd0 hL
      go_wp2_with fail
      refine wp_region_K 10 (by kernel_rfl) (fun w' => w'.cell? ⟨g, 0, none⟩ = some (.slice ao k cv)) (by exact hc0) (fun hH => ?_)
      refine wpAnyK_take (i := 0) (v := ?_) rfl (by kernel_rfl) (by kernel_rfl) (by kernel_rfl) (by decide) (by kernel_rfl) (fun _ _ _ h => h) (Or.inl ⟨by kernel_rfl, ?_⟩) hH ?_
      rotate_left
      · intro W' hS
        go_simp
        first | done | with_reducible rfl
      try simp only [Act.put, List.getElem_toArray, List.getElem_cons_succ, List.getElem_cons_zero, List.setIfInBounds_toArray, List.set_cons_zero, List.set_cons_succ]
      refine wpAnyK_take (i := 1) (v := ?_) rfl (by kernel_rfl) (by kernel_rfl) (by kernel_rfl) (by decide) (by kernel_rfl) (fun _ _ _ h => h) (Or.inl ⟨by kernel_rfl, ?_⟩) hH ?_
      rotate_left
      · intro W' hS
        go_simp
        first | done | with_reducible rfl
      try simp only [Act.put, List.getElem_toArray, List.getElem_cons_succ, List.getElem_cons_zero, List.setIfInBounds_toArray, List.set_cons_zero, List.set_cons_succ]
      refine wpAnyK_take (i := 2) (v := ?_) rfl (by kernel_rfl) (by kernel_rfl) (by kernel_rfl) (by decide) (by kernel_rfl) (fun _ _ _ h => h) (Or.inl ⟨by kernel_rfl, ?_⟩) hH ?_
      rotate_left
      · intro W' hS
        go_simp
        first | done | with_reducible rfl
      try simp only [Act.put, List.getElem_toArray, List.getElem_cons_succ, List.getElem_cons_zero, List.setIfInBounds_toArray, List.set_cons_zero, List.set_cons_succ]
      refine wpAnyK_take (i := 3) (v := ?_) rfl (by kernel_rfl) (by kernel_rfl) (by kernel_rfl) (by decide) (by kernel_rfl) (fun _ _ _ h => h) (Or.inl ⟨by kernel_rfl, ?_⟩) hH ?_
      rotate_left
      · intro W' hS
        go_simp
        first | done | with_reducible rfl
      try simp only [Act.put, List.getElem_toArray, List.getElem_cons_succ, List.getElem_cons_zero, List.setIfInBounds_toArray, List.set_cons_zero, List.set_cons_succ]
      refine wpAnyK_take (i := 4) (v := ?_) rfl (by kernel_rfl) (by kernel_rfl) (by kernel_rfl) (by decide) (by kernel_rfl) (fun _ _ _ h => h) (Or.inl ⟨by kernel_rfl, ?_⟩) hH ?_
      rotate_left
      · intro W' hS
        go_simp
        first | done | with_reducible rfl
      try simp only [Act.put, List.getElem_toArray, List.getElem_cons_succ, List.getElem_cons_zero, List.setIfInBounds_toArray, List.set_cons_zero, List.set_cons_succ]
      refine wpAnyK_next (i := 5) (by kernel_rfl) rfl (by decide) (fun K hK => ?_)
      have hc4 := (HD.out.1.drew.row.below (below_alloc wr.drew (.cells (Array.replicate 64 (.int .u8 0)) 5))).cell 0
      go_simp
      refine hK.out _ _ hc4 (fun hH => ?_)
      clear hK K hc4
      try simp only [Act.put, List.getElem_toArray, List.getElem_cons_succ, List.getElem_cons_zero, List.setIfInBounds_toArray, List.set_cons_zero, List.set_cons_succ]
      refine wpAnyK_next (i := 6) (by kernel_rfl) rfl (by decide) (fun K hK => ?_)
      go_simp
      obtain ⟨W5, hW5⟩ : ∃ W5, ((wr.alloc (.cells (Array.replicate 64 (.int .u8 0)) 5)).alloc (.cells #[.slice (some ⟨wr.heap.size, 0, none⟩) 64 64] 29)).drew = W5 := ⟨_, rfl⟩
      have hb5 : Below wr.heap.size wr W5 := by rw [← hW5]; exact (below_alloc2 wr _ _).drew
      have hr5 : rowIs W5 wr.heap.size (Array.replicate 64 (.int .u8 0)) 5 := by rw [← hW5]; exact (rowIs_new _ _ _).below (below_alloc _ _).drew
      have hx5 : rowIs W5 (wr.heap.size + 1) #[.slice (some ⟨wr.heap.size, 0, none⟩) 64 64] 29 := by rw [← hW5]; exact (rowIs_new_at _ _ _ _ (by simp)).below (Below.refl _ _).drew
      have hc5 := (HD.out.1.row.below hb5).cell 0
      rw [hW5]
      refine hK.out _ _ hc5 (fun hH => ?_)
      clear hK K hc5 hW5
      try simp only [Act.put, List.getElem_toArray, List.getElem_cons_succ, List.getElem_cons_zero, List.setIfInBounds_toArray, List.set_cons_zero, List.set_cons_succ]
      refine wpAnyK_next (i := 7) (by kernel_rfl) rfl (by decide) (fun K hK => ?_)
      rw [if_pos (by kernel_rfl)]
      have ho5 : W5.ownsRow 0 29 1 (.slice ao k cv) k ks := by
        have := HD.out.1.os.below hb5
        rw [show (DiskM.stands ⟨List.replicate k blankS, List.replicate n [], List.replicate n false, none, false⟩).length = k from HD.out.2.2.2.2] at this
        exact this
      refine wp_append_gen W5 (.tmp 20) (.tmp 22) 42 rfl 0 29 (z := .slice none 0 0) (sz := 1) (bytes := 24) Try.underlying42 (by kernel_rfl) rfl (by decide) (by decide) (v := .slice ao k cv) rfl ho5 ⟨wr.heap.size + 1, 0, none⟩ 1 1 [.slice (some ⟨wr.heap.size, 0, none⟩) 64 64] rfl (fun j u hj => ?_) (fun u hu => by rw [List.mem_singleton.1 hu]; rfl) rfl (by omega) (Nat.zero_le _) (fun v6 w6 ho6 hg6 hi6 => ?_)
      · rw [addAt2, Nat.zero_add, hx5.cell j]; simpa using hj
      obtain ⟨a6, c6, rfl⟩ := row_form15 ho6
      obtain ⟨d6, q6, i6⟩ := HD.out.1.more HD.out.2.2.2.2 rfl hb5 hr5 ho6 hg6 hi6
      have r6 := (HD.out.1.row.below hb5).kept ((Kept.refl (fun x => (Value.slice ao k cv).ownBlock = some x) W5).grown hg6 (fun k hk _ => hk)) (fun e => (HD.out.1.inS g e).1 rfl)
      have hc6 := r6.cell 0
      have hf6 := r6.free 0
      have HM := hid (And.intro d6 (And.intro q6 i6))
      clear d6 q6 i6 r6 ho6 hg6 hi6 ho5 hx5 hr5 hb5
      refine hK.out _ _ hc6 (fun hH => ?_)
      clear hK K
      try simp only [Act.put, List.getElem_toArray, List.getElem_cons_succ, List.getElem_cons_zero, List.setIfInBounds_toArray, List.set_cons_zero, List.set_cons_succ]
      refine wpAnyK_next (i := 8) (by kernel_rfl) rfl (by decide) (fun K hK => ?_)
      go_simp
      refine hK.out _ _ hc6 (fun hH => ?_)
      clear hK K
      try simp only [Act.put, List.getElem_toArray, List.getElem_cons_succ, List.getElem_cons_zero, List.setIfInBounds_toArray, List.set_cons_zero, List.set_cons_succ]
      refine wpAnyK_take (i := 9) (v := ?_) rfl (by kernel_rfl) (by kernel_rfl) (by kernel_rfl) (by decide) (by kernel_rfl) (fun _ _ _ h => h) (Or.inl ⟨by kernel_rfl, ?_⟩) hH ?_
      rotate_left
      · intro W' hS
        go_simp
        first | done | with_reducible rfl
      try simp only [Act.put, List.getElem_toArray, List.getElem_cons_succ, List.getElem_cons_zero, List.setIfInBounds_toArray, List.set_cons_zero, List.set_cons_succ]
      refine wpAnyK_last (by kernel_rfl) rfl (fun K hK => ?_)
      go_simp
      refine hK.out _ _ ?_
      clear hK K
      try simp only [Act.put, List.getElem_toArray, List.getElem_cons_succ, List.getElem_cons_zero, List.setIfInBounds_toArray, List.set_cons_zero, List.set_cons_succ]
      refine wpAnyK_done (by kernel_rfl) ?_ _
      clear hH hc6 hf6
      go_wp2_with fail
      go_roundw
      case rel =>
        obtain ⟨d6, q6, i6⟩ := HM.out
        refine ⟨k + 1, _, _, _, hkl, by simp, by rw [List.replicate_succ']; exact d6, HD.out.2.1.trans (q6.below (fun x hx _ => ?_) HD.out.2.1.size), fun x hx => ?_, fun x hx => ?_⟩
        · rcases hx with rfl | hx
          · exact HPH.out.1
          · exact HD.out.2.2.1 x hx
        · rcases i6 x hx with e | e
          · exact HD.out.2.2.1 x e
          · have := HD.out.2.1.size; omega
        · rcases hx with e | e
          · exact HD.out.2.2.2.1 x e
          · have := HD.out.2.1.size; omega
      case measure => simp only [intOf]; omega
end Go.Proofs.Ytgdeiokaicjkdaa
