/-
  Several texts in one: Ref7N, Ref7U, Ref7UQ, Ref7US, Ref7V.
-/
import Derived.Test.YtefplhkjcclppaaGreatDoorW8f13
import Derived.Test.YtefplhkjcclppaaGreatDoorW8f14
import Derived.Test.YtefplhkjcclppaaGreatDoorW8f10
import Derived.Test.YtefplhkjcclppaaGreatDoorW8f16
import Derived.Test.YtefplhkjcclppaaGreatDoorW8f11
/-
  The document's reader of layer 7: Next, where it is in error already, and where a head is.
-/
namespace Go.Proofs.YtefplhkjcclppaaGreatDoor
open Go.RowKit Go.Pantry

/-- what a message's taking tells and leaves: the document's -/
def DocMsg (g : Nat) (v : Value) (x : Except Nat (Hd × List UInt8) × Rd) (w : World) (e : Ending) (w' : World) : Prop :=
  (match x.1 with
    | .error k => k ≠ 0 ∧ e = .returned (.tuple #[.agg #[.string ⟨#[]⟩, .string ⟨#[]⟩, .int .i64 0, .int .i64 0, .slice none 0 0], .slice none 0 0, .int .i64 (k : Int)])
    | .ok (h, b) => ∃ vl vb, e = .returned (.tuple #[.agg #[strV h.first, strV h.second, .int .i64 (h.status : Int), .int .i64 (h.minor : Int), vl], vb, .int .i64 0]) ∧ Reads2 w' vl h.flds ∧ Bytes w' vb b ∧ In (fun k => w.heap.size ≤ k) vl) ∧
  ∃ v', DocAt w' g v' x.2 ∧ Kept (fun k => k = g) w w' ∧ In (fun k => v.ownBlock = some k) v'
theorem DocAt.setRow {w : World} {g : Nat} {v : Value} {s : Rd} (h : DocAt w g v s) {k : Nat} (hg : g ≠ k) (hv : In (fun j => j ≠ k) v) (cs : Array Value) : DocAt (w.setRow k cs) g v s :=
  h.kept ((Kept.refl (fun j => j = k) w).setRow (.inl rfl) cs) hg hv
set_option maxRecDepth 100000 in
set_option maxHeartbeats 4000000 in
theorem docNext_wrong (rq : Bool) (mt : List UInt8) (g : Nat) (v : Value) (s : Rd) (w : World) (h : DocAt w g v s) (hw : s.wrong ≠ 0) :
    Calls Tryz.prog 9 #[.pointer (some ⟨g, 0, none⟩), .bool rq, strV mt] w fun e w' => DocMsg g v (.error s.wrong, s) w e w' := by
  obtain ⟨came, closed, wrong⟩ := s
  obtain ⟨ao, cap, rfl, hcap⟩ := bytes_form h.by'
  obtain ⟨W0, hW0⟩ : ∃ W, W = w.alloc (.cells #[.string ⟨#[]⟩, .string ⟨#[]⟩, .int .i64 0, .int .i64 0, .slice none 0 0] 47) := ⟨_, rfl⟩
  have hb0 : Below w.heap.size w W0 := by rw [hW0]; exact below_alloc _ _
  have hres : rowIs W0 w.heap.size #[.string ⟨#[]⟩, .string ⟨#[]⟩, .int .i64 0, .int .i64 0, .slice none 0 0] 47 := by rw [hW0]; exact rowIs_new _ _ _
  have hd : DocAt W0 g (.slice ao came.length cap) ⟨came, closed, wrong⟩ := h.below hb0
  have hgl := h.row.lt
  have hvl : In (fun k => k ≠ w.heap.size) (.slice ao came.length cap) := h.apart.mono fun k hk => by omega
  simp only at hw
  have hc0 : ((wrong : Int) != 0) = true := by simp; omega
  have s2 := hd.row.cell 2
  have h2 := hd.row.cell 2
  rw [hW0] at s2
  have HD := hid (And.intro hd (And.intro hgl hvl))
  have HW := hid hw
  have HB0 := hid hb0
  have hrow := hd.row
  clear h hd hgl hvl hcap hw hb0
  go_enter Tryz.func9, Tryz.ntmps9
  go_wp2_with fail
  rw [← hW0]
  clear hW0 s2
  refine wp_region_held_drew (S := fun W => rowIs W g #[.slice ao came.length cap, .bool closed, .int .i64 (wrong : Int)] 29) (by kernel_rfl) (show rowIs _ _ _ _ from hrow) (fun hH => ?_)
  refine wpAnyH_take (i := 0) (v := ?_) rfl (by kernel_rfl) (by kernel_rfl) (by kernel_rfl) (fun _ _ _ h => h) (Or.inl ⟨by kernel_rfl, ?_⟩) hH ?_
  rotate_left
  · intro W hS
    have h2 := hS.cell 2
    go_simp
    first | done | with_reducible rfl
  simp only [Act.put, List.getElem_toArray, List.getElem_cons_succ, List.getElem_cons_zero, List.setIfInBounds_toArray, List.set_cons_zero, List.set_cons_succ]
  refine wpAnyH_take (i := 1) (v := ?_) rfl (by kernel_rfl) (by kernel_rfl) (by kernel_rfl) (fun _ _ _ h => h) (Or.inl ⟨by kernel_rfl, ?_⟩) hH ?_
  rotate_left
  · intro W hS
    have h2 := hS.cell 2
    go_simp
    first | done | with_reducible rfl
  simp only [Act.put, List.getElem_toArray, List.getElem_cons_succ, List.getElem_cons_zero, List.setIfInBounds_toArray, List.set_cons_zero, List.set_cons_succ]
  refine wpAnyH_take (i := 2) (v := ?_) rfl (by kernel_rfl) (by kernel_rfl) (by kernel_rfl) (fun _ _ _ h => h) (Or.inl ⟨by kernel_rfl, ?_⟩) hH ?_
  rotate_left
  · intro W hS
    have h2 := hS.cell 2
    go_simp
    first | done | with_reducible rfl
  simp only [Act.put, List.getElem_toArray, List.getElem_cons_succ, List.getElem_cons_zero, List.setIfInBounds_toArray, List.set_cons_zero, List.set_cons_succ]
  refine wpAnyH_take (i := 3) (v := ?_) rfl (by kernel_rfl) (by kernel_rfl) (by kernel_rfl) (fun _ _ _ h => h) (Or.inl ⟨by kernel_rfl, ?_⟩) hH ?_
  rotate_left
  · intro W hS
    have h2 := hS.cell 2
    go_simp
    first | done | with_reducible rfl
  simp only [Act.put, List.getElem_toArray, List.getElem_cons_succ, List.getElem_cons_zero, List.setIfInBounds_toArray, List.set_cons_zero, List.set_cons_succ]
  refine wpAnyH_take (i := 4) (v := ?_) rfl (by kernel_rfl) (by kernel_rfl) (by kernel_rfl) (fun _ _ _ h => h) (Or.inl ⟨by kernel_rfl, ?_⟩) hH ?_
  rotate_left
  · intro W hS
    have h2 := hS.cell 2
    go_simp
    first | done | with_reducible rfl
  simp only [Act.put, List.getElem_toArray, List.getElem_cons_succ, List.getElem_cons_zero, List.setIfInBounds_toArray, List.set_cons_zero, List.set_cons_succ]
  refine wpAnyH_ready (rs := [5]) (by kernel_rfl) (by simp) ?_
  refine AllReadyH.cons rfl (fun K hK => ?_) AllReadyH.nil
  refine wp_store_row 47 _ _ rfl w.heap.size #[.string ⟨#[]⟩, .string ⟨#[]⟩, .int .i64 0, .int .i64 0, .slice none 0 0] rfl rfl 47 #[.string ⟨#[]⟩, .string ⟨#[]⟩, .int .i64 0, .int .i64 0, .slice none 0 0] (show rowIs W0.drew _ _ _ from hres) infoHdS rfl (one5 [] [] 0 0 none 0 0) ?_
  have hgr : g ≠ w.heap.size := by have := HD.out.2.1; omega
  refine hK.out _ _ (hH.setRow_other _ hgr) (fun hH => ?_)
  clear hK K
  try simp only [Act.put, List.getElem_toArray, List.getElem_cons_succ, List.getElem_cons_zero, List.setIfInBounds_toArray, List.set_cons_zero, List.set_cons_succ]
  refine wpAnyH_take (i := 6) (v := ?_) rfl (by kernel_rfl) (by kernel_rfl) (by kernel_rfl) (fun _ _ _ h => h) (Or.inl ⟨by kernel_rfl, ?_⟩) hH ?_
  rotate_left
  · intro W hS
    have h2 := hS.cell 2
    go_simp
    first | done | with_reducible rfl
  simp only [Act.put, List.getElem_toArray, List.getElem_cons_succ, List.getElem_cons_zero, List.setIfInBounds_toArray, List.set_cons_zero, List.set_cons_succ]
  refine wpAnyH_take (i := 7) (v := ?_) rfl (by kernel_rfl) (by kernel_rfl) (by kernel_rfl) (fun _ _ _ h => h) (Or.inl ⟨by kernel_rfl, ?_⟩) hH ?_
  rotate_left
  · intro W hS
    have h2 := hS.cell 2
    go_simp
    first | done | with_reducible rfl
  simp only [Act.put, List.getElem_toArray, List.getElem_cons_succ, List.getElem_cons_zero, List.setIfInBounds_toArray, List.set_cons_zero, List.set_cons_succ]
  refine wpAnyH_done (by kernel_rfl) ?_ _
  go_wp2_with fail
  refine bodyPost_ret (results_row3 Tryz.results9 _ _ w.heap.size _ rfl ((show rowIs W0.drew w.heap.size #[.string ⟨#[]⟩, .string ⟨#[]⟩, .int .i64 0, .int .i64 0, .slice none 0 0] 47 from hres).setRow _) Tryz.underlying47 rfl infoHdS) rfl ?_
  obtain ⟨hd, hgl, hvl⟩ := HD.out
  have hdd : DocAt W0.drew g (.slice ao came.length cap) ⟨came, closed, wrong⟩ := hd.below ((Below.refl _ _).drew)
  exact ⟨⟨HW.out, rfl⟩, _, hdd.setRow (by omega) hvl _, ((Kept.of_below HB0.out).drew).setRow (.inr (Nat.le_refl _)) _, fun k hk => hk⟩
set_option maxRecDepth 100000 in
set_option maxHeartbeats 4000000 in
theorem docNext_bad (rq : Bool) (mt : List UInt8) (g : Nat) (v : Value) (s : Rd) (w : World) (h : DocAt w g v s) (hw : s.wrong = 0) (hl : s.came.length ≤ 8192) {k : Nat} (hk : readL (if rq then reqL else resL) s.came = .error k) (h43 : k ≠ 43) (h0 : headE s.closed s.came k ≠ 0) :
    Calls Tryz.prog 9 #[.pointer (some ⟨g, 0, none⟩), .bool rq, strV mt] w fun e w' => DocMsg g v (.error (headE s.closed s.came k), ⟨s.came, s.closed, tellX (headE s.closed s.came k)⟩) w e w' := by
  obtain ⟨came, closed, wrong⟩ := s
  obtain ⟨ao, cap, rfl, hcap⟩ := bytes_form h.by'
  obtain ⟨W0, hW0⟩ : ∃ W, W = w.alloc (.cells #[.string ⟨#[]⟩, .string ⟨#[]⟩, .int .i64 0, .int .i64 0, .slice none 0 0] 47) := ⟨_, rfl⟩
  have hb0 : Below w.heap.size w W0 := by rw [hW0]; exact below_alloc _ _
  have hres : rowIs W0 w.heap.size #[.string ⟨#[]⟩, .string ⟨#[]⟩, .int .i64 0, .int .i64 0, .slice none 0 0] 47 := by rw [hW0]; exact rowIs_new _ _ _
  have hd : DocAt W0 g (.slice ao came.length cap) ⟨came, closed, wrong⟩ := h.below hb0
  have hgl := h.row.lt
  have hvl : In (fun k => k ≠ w.heap.size) (.slice ao came.length cap) := h.apart.mono fun k hk => by omega
  simp only at hw hl hk h0
  subst hw
  have c1 := refRead_any ao cap came rq W0 (bytesRead hd.by') (by omega)
  rw [hk] at c1
  have C1 := hid c1
  have s0 := hd.row.cell 0
  have s2 := hd.row.cell 2
  rw [hW0] at s0 s2
  have HD := hid (And.intro hd (And.intro hgl hvl))
  have HB0 := hid hb0
  have HRES := hid hres
  have HE := hid (And.intro h43 h0)
  clear h hd hgl hvl hcap hb0 hres c1 hk h43 h0
  go_enter Tryz.func9, Tryz.ntmps9
  go_wp2_with fail
  rw [← hW0]
  clear hW0 s0 s2
  refine C1.out.mono ?_
  rintro e w1 ⟨⟨hk0, rfl⟩, hb1⟩
  have hc0 : ((k : Int) != 0) = true := by simp; omega
  obtain ⟨W2, hW2⟩ : ∃ W, W = w1.alloc (.cells #[strV [], strV [], .int .i64 0, .int .i64 0, .slice none 0 0] 47) := ⟨_, rfl⟩
  have hb2 : Below W0.heap.size W0 W2 := hb1.trans (by rw [hW2]; exact (below_alloc _ _).mono hb1.size)
  have hd2 := HD.out.1.below hb2
  have hres2 := HRES.out.below hb2
  have hw02 : w.heap.size ≤ W2.heap.size := Nat.le_trans HB0.out.size hb2.size
  have cf := docFail_any g (.slice ao came.length cap) ⟨came, closed, 0⟩ k W2 hd2 rfl HE.out.1
  have CF := hid cf
  have HB2 := hid (chain2 HB0.out HB0.out.size hb2)
  have HRES2 := hid hres2
  clear C1 hk0 hb1 hb2 hd2 hres2 cf
  go_wp2_with fail
  rw [← hW2]
  clear hW2
  refine CF.out.mono ?_
  rintro e w3 ⟨rfl, hd3, hk3⟩
  have hgr : ¬ w.heap.size = g := by have := HD.out.2.1; omega
  have hres := HRES2.out.kept hk3 hgr
  have HD3 := hid hd3
  have HK3 := hid hk3
  clear hd3 hk3 CF
  simp only
  go_wp2_with (refine wpList_store_row rfl 47 _ _ rfl w.heap.size _ rfl rfl 47 #[.string ⟨#[]⟩, .string ⟨#[]⟩, .int .i64 0, .int .i64 0, .slice none 0 0] hres infoHdS rfl (one5 [] [] 0 0 none 0 0) ?_)
  refine bodyPost_ret (results_row3 Tryz.results9 _ _ w.heap.size _ rfl (hres.setRow _) Tryz.underlying47 rfl infoHdS) rfl ?_
  exact ⟨⟨HE.out.2, rfl⟩, _, HD3.out.setRow (fun e => hgr e.symm) HD.out.2.2 _, (((Kept.of_below HB2.out).trans HK3.out (fun k hk _ => hk)).setRow (.inr (Nat.le_refl _)) _), fun k hk => hk⟩
end Go.Proofs.YtefplhkjcclppaaGreatDoor
/-
  The document's reader of layer 7: what Next behind a head that is read asks.
-/
namespace Go.Pantry
open Go.RowKit
theorem bytes_low_in {P : Program} (t : TypeId) (ht : P.underlying t = some (.slice (P.elem t))) (h1 : ∀ W, (sizeOf (P.elem t)).run P W = .ok 1 W) {w : World} {ao : Option Addr} {cap : Nat} {l : List UInt8} (h : Bytes w (.slice ao l.length cap) l) (k : Nat) (hk : k ≤ l.length) :
    ∃ ao' cap', (∀ W, (Instr.slice t (.slice ao l.length cap) (some (.int .i64 (k : Int))) none none).run P W = .ok (.slice ao' (l.length - k) cap') W) ∧ Bytes w (.slice ao' (l.length - k) cap') (l.drop k) ∧ In (fun b => (Value.slice ao l.length cap).ownBlock = some b) (.slice ao' (l.length - k) cap') := by
  obtain ⟨ao0, cap0, hv0, hc, hr⟩ := h
  cases hv0
  refine ⟨(if cap = k then ao else ao.map (·.add (k * 1))), cap - k, fun W => ?_, ?_, ?_⟩
  · rw [run_slice_l W t ao l.length cap ht .i64 (k : Int) (by omega) (by omega), h1]
    simp only [Result.andThen, sliced, Int.toNat_natCast]
  · refine ⟨_, _, by rw [List.length_drop], by rw [List.length_drop]; omega, ?_⟩
    obtain ⟨ao', cap', hv, hcell, hz⟩ := hr
    rw [List.length_map] at hv
    cases hv
    refine ⟨(if cap = k then ao else ao.map (·.add (k * 1))), cap - k, by rw [List.length_map, List.length_drop], fun j u hj => ?_, fun e => ?_⟩
    · rw [List.map_drop, List.getElem?_drop] at hj
      have hjl := (List.getElem?_eq_some_iff.1 hj).1
      rw [List.length_map] at hjl
      obtain ⟨b, off, ha, g1⟩ := hcell (k + j) u hj
      subst ha
      rw [if_neg (by omega)]
      refine ⟨b, off + k, by simp only [Option.map_some]; rw [addAt2]; simp, ?_⟩
      rw [show off + k + j = off + (k + j) by omega]; exact g1
    · split at e
      · rename_i hck
        omega
      · cases ao with
        | none => have := hz rfl; omega
        | some a => cases e
  · intro b hb
    cases ao with
    | none => split at hb <;> cases hb
    | some a =>
      have e : (a.add (k * 1)).block = a.block := by
        unfold Addr.add
        split <;> rfl
      split at hb
      · exact hb
      · have h2 : some (a.add (k * 1)).block = some b := hb
        rw [e] at h2
        exact h2
/-- Bytes are in no row that has none. -/
theorem bytes_kept_row {w w' : World} {v : Value} {l : List UInt8} {G : Nat} {cs : Array Value} {t : TypeId} (h : Bytes w v l) (hR : rowIs w G cs t) (hno : ∀ (i : Nat) (c : UInt8), cs[i]? ≠ some (byteV c)) (hk : Kept (fun k => k = G) w w') : Bytes w' v l := by
  obtain ⟨a, c, h1, h2, h3⟩ := h
  refine ⟨a, c, h1, h2, ?_⟩
  obtain ⟨ao, cap, rfl, hc, hz⟩ := h3
  refine ⟨ao, cap, rfl, fun j u hj => ?_, hz⟩
  obtain ⟨b, off, ha, hcell⟩ := hc j u hj
  refine ⟨b, off, ha, ?_⟩
  have hlt : b < w.heap.size := World.block_lt_of_cell? w _ hcell
  have hb : b ≠ G := by
    rintro rfl
    have h4 := hR.cell (off + j)
    rw [hcell] at h4
    rw [List.getElem?_map] at hj
    cases hl : l[j]? with
    | none => rw [hl] at hj; cases hj
    | some x =>
      rw [hl] at hj
      cases hj
      exact hno _ x h4.symm
  exact (World.cell?_of_block (w := w) (w' := w') (a := ⟨b, off + j, none⟩) (hk.2 b hlt hb)).trans hcell
end Go.Pantry
namespace Go.Proofs.YtefplhkjcclppaaGreatDoor
open Go.RowKit Go.Pantry
theorem no_bytes3 (ao : Option Addr) (n cap : Nat) (q : Bool) (z : Int) : ∀ (i : Nat) (c : UInt8), (#[.slice ao n cap, .bool q, .int .i64 z] : Array Value)[i]? ≠ some (byteV c) := by
  intro i c h
  match i with
  | 0 => simp [byteV] at h
  | 1 => simp [byteV] at h
  | 2 => simp [byteV] at h
  | i + 3 => simp at h
theorem no_bytes5 : ∀ (i : Nat) (c : UInt8), (#[.string ⟨#[]⟩, .string ⟨#[]⟩, .int .i64 0, .int .i64 0, .slice none 0 0] : Array Value)[i]? ≠ some (byteV c) := by
  intro i c h
  match i with
  | 0 => simp [byteV] at h
  | 1 => simp [byteV] at h
  | 2 => simp [byteV] at h
  | 3 => simp [byteV] at h
  | 4 => simp [byteV] at h
  | i + 5 => simp at h
end Go.Proofs.YtefplhkjcclppaaGreatDoor
/-
  The document's reader of layer 7: Next behind a head that is read (requests).
-/
namespace Go.Pantry
open Go.RowKit
theorem frame_small {z : Int} {o : Nat} {L : List Fld} {k m : Nat} (ho : o ≤ 3) (h : frameX z o L = .ok (k, m)) : k ≤ 3 ∧ m ≤ 2048 := by
  have h1 := frameX_ok h
  simp only at h1
  omega
end Go.Pantry
namespace Go.Proofs.YtefplhkjcclppaaGreatDoor
open Go.RowKit Go.Pantry

set_option maxRecDepth 100000 in
set_option maxHeartbeats 16000000 in
theorem docNext_q (mt : List UInt8) (g : Nat) (v : Value) (s : Rd) (w : World) (h : DocAt w g v s) (hw : s.wrong = 0) (hl : s.came.length ≤ 8192) {hh : Hd} {n : Nat} (hk : readL reqL s.came = .ok (hh, n)) {X : Except Nat (Hd × List UInt8) × Rd} (hX : nextX (readL reqL) reqFr s = X) :
    Calls Tryz.prog 9 #[.pointer (some ⟨g, 0, none⟩), .bool true, strV mt] w fun e w' => DocMsg g v X w e w' := by
  have hap0 := h.apart
  obtain ⟨came, closed, wrong⟩ := s
  obtain ⟨ao, cap, rfl, hcap⟩ := bytes_form h.by'
  obtain ⟨W0, hW0⟩ : ∃ W, W = w.alloc (.cells #[.string ⟨#[]⟩, .string ⟨#[]⟩, .int .i64 0, .int .i64 0, .slice none 0 0] 47) := ⟨_, rfl⟩
  have hb0 : Below w.heap.size w W0 := by rw [hW0]; exact below_alloc _ _
  have hres : rowIs W0 w.heap.size #[.string ⟨#[]⟩, .string ⟨#[]⟩, .int .i64 0, .int .i64 0, .slice none 0 0] 47 := by rw [hW0]; exact rowIs_new _ _ _
  have hd : DocAt W0 g (.slice ao came.length cap) ⟨came, closed, wrong⟩ := h.below hb0
  have hgl := h.row.lt
  have hvl : In (fun k => k ≠ w.heap.size) (.slice ao came.length cap) := h.apart.mono fun k hk => by omega
  simp only at hw hl hk
  subst hw
  have HAP := hid hap0
  unfold nextX at hX
  simp only [ne_eq, not_true_eq_false, if_false] at hX
  rw [hk] at hX
  simp only at hX
  have hpos := readL_pos hk
  have hfl := okFs_read_q hk
  have c1 := refRead_any ao cap came true W0 (bytesRead hd.by') (by omega)
  rw [if_pos rfl, hk] at c1
  have C1 := hid c1
  have C2 := hid (fun W u h1 => refOfResponse_any mt hh.first hh.second (hh.status : Int) (hh.minor : Int) u hh.flds W h1 hfl.1 hfl.2)
  have C2b := hid (fun W u h1 => refOfRequest_any hh.first hh.second (hh.status : Int) (hh.minor : Int) u hh.flds W h1 hfl.1 hfl.2)
  have s0 := hd.row.cell 0
  have s2 := hd.row.cell 2
  rw [hW0] at s0 s2
  have HD := hid (And.intro hgl hvl)
  have HP := hid hpos
  have HXo := hid hX
  have HL := hid hl
  clear h hgl hvl hcap c1 hk hpos hfl hX hap0
  go_enter Tryz.func9, Tryz.ntmps9
  go_wp2_with fail
  rw [← hW0]
  clear hW0 s0 s2
  refine C1.out.mono ?_
  rintro e w1 ⟨⟨vl, rfl, hol⟩, hb1⟩
  obtain ⟨aol, cl, rfl⟩ := ownsRow_form hol
  have HLI := hid (show ∀ k, (Value.slice aol hh.flds.length cl).ownBlock = some k → W0.heap.size ≤ k ∧ k < w1.heap.size from fun k hk => hol.lt k hk)
  obtain ⟨W2, hW2⟩ : ∃ W, W = w1.alloc (.cells #[strV hh.first, strV hh.second, .int .i64 (hh.status : Int), .int .i64 (hh.minor : Int), .slice aol hh.flds.length cl] 47) := ⟨_, rfl⟩
  have hbA : Below w1.heap.size w1 W2 := by rw [hW2]; exact below_alloc _ _
  have hhb : rowIs W2 w1.heap.size #[strV hh.first, strV hh.second, .int .i64 (hh.status : Int), .int .i64 (hh.minor : Int), .slice aol hh.flds.length cl] 47 := by rw [hW2]; exact rowIs_new _ _ _
  have hb2 : Below W0.heap.size W0 W2 := hb1.trans (hbA.mono hb1.size)
  have hd2 := hd.below hb2
  have hres2 := hres.below hb2
  have hol2 := hol.below hbA
  have hbw2 := chain2 hb0 hb0.size hb2
  have hw1 : W0.heap.size ≤ w1.heap.size := hb1.size
  have hw0 : w.heap.size < W0.heap.size := hres.lt
  clear hd hres hol hb1 hbA hb2 hb0 C1
  go_wp2_with fail
  rw [← hW2]
  clear hW2
  have g0 := hhb.cell 0
  have g1 := hhb.cell 1
  have g2 := hhb.cell 2
  have g3 := hhb.cell 3
  have g4 := hhb.cell 4
  go_wp2_with fail
  refine (C2.out _ _ (hol2.reads2).2).mono ?_
  rintro e w3 ⟨hf3, hb3⟩
  obtain ⟨a1, a2, a3, hfx, rfl⟩ := hf3.form
  obtain ⟨W4, hW4⟩ : ∃ W, W = w3.alloc (.cells #[.int .i64 a1, .int .i64 a2] 72) := ⟨_, rfl⟩
  have hbB : Below w3.heap.size w3 W4 := by rw [hW4]; exact below_alloc _ _
  have hfb : rowIs W4 w3.heap.size #[.int .i64 a1, .int .i64 a2] 72 := by rw [hW4]; exact rowIs_new _ _ _
  have hb4 : Below W2.heap.size W2 W4 := hb3.trans (hbB.mono hb3.size)
  have hd4 := hd2.below hb4
  have hres4 := hres2.below hb4
  have hhb4 := hhb.below hb4
  have hol4 := hol2.below hb4
  have hbw4 := chain2 hbw2 hbw2.size hb4
  have hl1 := hhb.lt
  have hl3 : W2.heap.size ≤ w3.heap.size := hb3.size
  have HL4 := hid hfb.lt
  clear hf3 hb3 hbB hb4 hd2 hres2 hhb hol2 hbw2 C2 g0 g1 g2 g3 g4
  have g0 := hhb4.cell 0
  have g1 := hhb4.cell 1
  have g2 := hhb4.cell 2
  have g3 := hhb4.cell 3
  have g4 := hhb4.cell 4
  rw [hW4] at g0 g1 g2 g3 g4
  clear hfx
  go_wp2_with fail
  rw [← hW4]
  clear hW4 g0 g1 g2 g3 g4
  refine (C2b.out _ _ (hol4.reads2).2).mono ?_
  rintro e w5 ⟨hf5, hb5⟩
  obtain ⟨b1, b2, b3, hfx, rfl⟩ := hf5.form
  have hfb5 := hfb.below hb5
  have hd5 := hd4.below hb5
  have hres5 := hres4.below hb5
  have hhb5 := hhb4.below hb5
  have hol5 := hol4.below hb5
  have hbw5 := chain2 hbw4 hbw4.size hb5
  clear hf5 hb5 hd4 hres4 hhb4 hol4 hbw4 C2b
  have HX0 := HXo.out
  change (match frameX (hh.minor : Int) 0 hh.flds with | .error e => _ | .ok (k, m) => _) = X at HX0
  have hFe : ∀ z, frameX (hh.minor : Int) 0 hh.flds = .error z → z = 23 ∨ z = 24 := fun z hz => frameX_err hz
  have hFo : ∀ k m, frameX (hh.minor : Int) 0 hh.flds = .ok (k, m) → k ≤ 3 ∧ m ≤ 2048 := fun k m hz => frame_small (by decide) hz
  skip
  obtain ⟨FX, hFX⟩ : ∃ FX, frameX (hh.minor : Int) 0 hh.flds = FX := ⟨_, rfl⟩
  skip
  rw [hFX] at hFe hFo hfx HX0
  have HXX := hid HX0
  clear HXo HX0 hFX
  cases FX with
  | error z =>
    have hzz := hFe z rfl
    have hz0 : z ≠ 0 := by omega
    simp only [fK, Prod.mk.injEq] at hfx
    obtain ⟨rfl, rfl, rfl⟩ := hfx
    have HX := HXX
    have hc0 : ((z : Int) != 0) = true := by simp; omega
    obtain ⟨V, hV⟩ : ∃ V, V = w5.setRow w3.heap.size #[.int .i64 0, .int .i64 0] := ⟨_, rfl⟩
    have hkV : Kept (fun k => k = w3.heap.size) w5 V := by rw [hV]; exact (Kept.refl (fun k => k = w3.heap.size) w5).setRow (.inl rfl) _
    have hfV : rowIs V w3.heap.size #[.int .i64 0, .int .i64 0] 72 := by rw [hV]; exact hfb5.setRow _
    have hdV : DocAt V g (.slice ao came.length cap) ⟨came, closed, 0⟩ := hd5.kept hkV (by show ¬ g = w3.heap.size; have := HD.out.1; omega) (HAP.out.mono fun k hk e => by have := hk.2; omega)
    have hresV := hres5.kept hkV (by show ¬ w.heap.size = w3.heap.size; omega)
    have hhV := hhb5.kept hkV (by show ¬ w1.heap.size = w3.heap.size; omega)
    have hflV := reads2_kept (hol5.reads2).2 hkV (fun k hk e => by have := HLI.out k hk; omega)
    have HBV : Below w.heap.size w V := hbw5.trans (hkV.below (fun k hk _ => by have : k = w3.heap.size := hk; omega) hbw5.size)
    clear hfb hd5 hres5 hhb5 hol5 hbw5 hkV hhV hflV hfV hFe hFo HXX
    go_wp2_with (refine wpList_store_row rfl 72 _ _ rfl w3.heap.size _ rfl rfl 72 #[.int .i64 a1, .int .i64 a2] hfb5 infoFr6 rfl (oneF6 _ _) ?_)
    rw [← hV]
    clear hV hfb5
    have cf := docFail_any g (.slice ao came.length cap) ⟨came, closed, 0⟩ z V hdV rfl (by omega)
    have hHE : headE closed came z = z := by unfold headE; rw [if_neg (by omega)]
    unfold DocFail at cf
    simp only [hHE] at cf
    have CF := hid cf
    have HZ := hid (And.intro hz0 HBV)
    have HRV := hid hresV
    clear cf hHE hdV hresV HBV hz0
    refine CF.out.mono ?_
    rintro e w9 ⟨rfl, hd9, hk9⟩
    have hgr : ¬ w.heap.size = g := by have := HD.out.1; omega
    have hres9 := HRV.out.kept hk9 hgr
    have HD9 := hid hd9
    have HK9 := hid hk9
    clear hd9 hk9 CF
    go_wp2_with (refine wpList_store_row rfl 47 _ _ rfl w.heap.size _ rfl rfl 47 #[.string ⟨#[]⟩, .string ⟨#[]⟩, .int .i64 0, .int .i64 0, .slice none 0 0] hres9 infoHdS rfl (one5 [] [] 0 0 none 0 0) ?_)
    refine bodyPost_ret (results_row3 Tryz.results9 _ _ w.heap.size _ rfl (hres9.setRow _) Tryz.underlying47 rfl infoHdS) rfl ?_
    rw [← HX.out]
    exact ⟨⟨HZ.out.1, rfl⟩, _, HD9.out.setRow (fun e => hgr e.symm) HD.out.2 _, (((Kept.of_below HZ.out.2).trans HK9.out (fun k hk _ => hk)).setRow (.inr (Nat.le_refl _)) _), fun k hk => hk⟩
  | ok km =>
    obtain ⟨kk, m⟩ := km
    obtain ⟨hk3, hm⟩ := hFo kk m rfl
    simp only [fK, Prod.mk.injEq] at hfx
    obtain ⟨rfl, rfl, rfl⟩ := hfx
    have hXo := HXX.out
    simp only at hXo
    obtain ⟨V, hV⟩ : ∃ V, V = w5.setRow w3.heap.size #[.int .i64 (kk : Int), .int .i64 (m : Int)] := ⟨_, rfl⟩
    have hkV : Kept (fun k => k = w3.heap.size) w5 V := by rw [hV]; exact (Kept.refl (fun k => k = w3.heap.size) w5).setRow (.inl rfl) _
    have hfV : rowIs V w3.heap.size #[.int .i64 (kk : Int), .int .i64 (m : Int)] 72 := by rw [hV]; exact hfb5.setRow _
    have hdV : DocAt V g (.slice ao came.length cap) ⟨came, closed, 0⟩ := hd5.kept hkV (by show ¬ g = w3.heap.size; have := HD.out.1; omega) (HAP.out.mono fun k hk e => by have := hk.2; omega)
    have hresV := hres5.kept hkV (by show ¬ w.heap.size = w3.heap.size; omega)
    have hhV := hhb5.kept hkV (by show ¬ w1.heap.size = w3.heap.size; omega)
    have hflV := reads2_kept (hol5.reads2).2 hkV (fun k hk e => by have := HLI.out k hk; omega)
    have HBV : Below w.heap.size w V := hbw5.trans (hkV.below (fun k hk _ => by have : k = w3.heap.size := hk; omega) hbw5.size)
    clear hfb hd5 hres5 hhb5 hol5 hbw5 hkV hFe hFo HXX
    have c3 := fun W u hu => refReadB_any kk m u (came.drop n) closed W hu (by rw [List.length_drop]; have := HL.out; omega) hm hk3
    obtain ⟨aoL, capL, hlow, hbyL, hinL⟩ := bytes_low_in (P := Tryz.prog) 27 (by kernel_rfl) (fun _ => by kernel_rfl) hdV.by' n HP.out.2
    have HLOW := hid hlow
    have HBYL := hid hbyL
    have C3 := hid c3
    have HX1 := hid hXo
    have hrowV := hdV.row
    clear c3 hlow hbyL hinL hXo
    go_wp2_with (refine wpList_store_row rfl 72 _ _ rfl w3.heap.size _ rfl rfl 72 #[.int .i64 a1, .int .i64 a2] hfb5 infoFr6 rfl (oneF6 _ _) ?_)
    rw [← hV]
    clear hV hfb5
    refine wp_region_held_drew (S := fun W => rowIs W w3.heap.size #[.int .i64 (kk : Int), .int .i64 (m : Int)] 72 ∧ rowIs W g #[.slice ao came.length cap, .bool closed, .int .i64 0] 29) (by kernel_rfl) ⟨hfV, hrowV⟩ (fun hH => ?_)
    refine wpAnyH_take (i := 0) (v := (.agg #[.int .i64 (kk : Int), .int .i64 (m : Int)])) rfl (by kernel_rfl) (by kernel_rfl) (by kernel_rfl) (fun _ _ _ h => h) (Or.inl ⟨by kernel_rfl, ?_⟩) hH ?_
    · intro W hS
      exact load_gives rfl w3.heap.size rfl hS.1 Tryz.underlying72 rfl infoFr6
    simp only [Act.put, List.getElem_toArray, List.getElem_cons_succ, List.getElem_cons_zero, List.setIfInBounds_toArray, List.set_cons_zero, List.set_cons_succ]
    refine wpAnyH_take (i := 1) (v := ?_) rfl (by kernel_rfl) (by kernel_rfl) (by kernel_rfl) (fun _ _ _ h => h) (Or.inl ⟨by kernel_rfl, ?_⟩) hH ?_
    rotate_left
    · intro W hS
      have q0 := hS.2.cell 0
      have q1 := hS.2.cell 1
      go_simp
      first | done | with_reducible rfl
    simp only [Act.put, List.getElem_toArray, List.getElem_cons_succ, List.getElem_cons_zero, List.setIfInBounds_toArray, List.set_cons_zero, List.set_cons_succ]
    refine wpAnyH_take (i := 2) (v := ?_) rfl (by kernel_rfl) (by kernel_rfl) (by kernel_rfl) (fun _ _ _ h => h) (Or.inl ⟨by kernel_rfl, ?_⟩) hH ?_
    rotate_left
    · intro W hS
      have q0 := hS.2.cell 0
      have q1 := hS.2.cell 1
      go_simp
      first | done | with_reducible rfl
    simp only [Act.put, List.getElem_toArray, List.getElem_cons_succ, List.getElem_cons_zero, List.setIfInBounds_toArray, List.set_cons_zero, List.set_cons_succ]
    refine wpAnyH_take (i := 3) (v := ?_) rfl (by kernel_rfl) (by kernel_rfl) (by kernel_rfl) (fun _ _ _ h => h) (Or.inl ⟨by kernel_rfl, ?_⟩) hH ?_
    rotate_left
    · intro W hS
      have q0 := hS.2.cell 0
      have q1 := hS.2.cell 1
      go_simp
      first | done | with_reducible rfl
    simp only [Act.put, List.getElem_toArray, List.getElem_cons_succ, List.getElem_cons_zero, List.setIfInBounds_toArray, List.set_cons_zero, List.set_cons_succ]
    refine wpAnyH_take (i := 4) (v := ?_) rfl (by kernel_rfl) (by kernel_rfl) (by kernel_rfl) (fun _ _ _ h => h) (Or.inl ⟨by kernel_rfl, ?_⟩) hH ?_
    rotate_left
    · intro W hS
      have q0 := hS.2.cell 0
      have q1 := hS.2.cell 1
      go_simp
      first | done | with_reducible rfl
    simp only [Act.put, List.getElem_toArray, List.getElem_cons_succ, List.getElem_cons_zero, List.setIfInBounds_toArray, List.set_cons_zero, List.set_cons_succ]
    refine wpAnyH_take (i := 5) (v := ?_) rfl (by kernel_rfl) (by kernel_rfl) (by kernel_rfl) (fun _ _ _ h => h) (Or.inl ⟨by kernel_rfl, ?_⟩) hH ?_
    rotate_left
    · intro W hS
      have q0 := hS.2.cell 0
      have q1 := hS.2.cell 1
      go_simp
      first | done | with_reducible rfl
    simp only [Act.put, List.getElem_toArray, List.getElem_cons_succ, List.getElem_cons_zero, List.setIfInBounds_toArray, List.set_cons_zero, List.set_cons_succ]
    refine wpAnyH_take (i := 6) (v := (.slice aoL (came.length - n) capL)) rfl (by kernel_rfl) (by kernel_rfl) (by kernel_rfl) (fun _ _ _ h => h) (Or.inl ⟨by kernel_rfl, ?_⟩) hH ?_
    · intro W hS
      exact slice_gives rfl rfl rfl (by kernel_rfl) (HLOW.out _)
    simp only [Act.put, List.getElem_toArray, List.getElem_cons_succ, List.getElem_cons_zero, List.setIfInBounds_toArray, List.set_cons_zero, List.set_cons_succ]
    refine wpAnyH_take (i := 7) (v := ?_) rfl (by kernel_rfl) (by kernel_rfl) (by kernel_rfl) (fun _ _ _ h => h) (Or.inl ⟨by kernel_rfl, ?_⟩) hH ?_
    rotate_left
    · intro W hS
      have q0 := hS.2.cell 0
      have q1 := hS.2.cell 1
      go_simp
      first | done | with_reducible rfl
    simp only [Act.put, List.getElem_toArray, List.getElem_cons_succ, List.getElem_cons_zero, List.setIfInBounds_toArray, List.set_cons_zero, List.set_cons_succ]
    refine wpAnyH_take (i := 8) (v := ?_) rfl (by kernel_rfl) (by kernel_rfl) (by kernel_rfl) (fun _ _ _ h => h) (Or.inl ⟨by kernel_rfl, ?_⟩) hH ?_
    rotate_left
    · intro W hS
      have q0 := hS.2.cell 0
      have q1 := hS.2.cell 1
      go_simp
      first | done | with_reducible rfl
    simp only [Act.put, List.getElem_toArray, List.getElem_cons_succ, List.getElem_cons_zero, List.setIfInBounds_toArray, List.set_cons_zero, List.set_cons_succ]
    refine wpAnyH_take (i := 9) (v := ?_) rfl (by kernel_rfl) (by kernel_rfl) (by kernel_rfl) (fun _ _ _ h => h) (Or.inl ⟨by kernel_rfl, ?_⟩) hH ?_
    rotate_left
    · intro W hS
      have q0 := hS.2.cell 0
      have q1 := hS.2.cell 1
      go_simp
      first | done | with_reducible rfl
    simp only [Act.put, List.getElem_toArray, List.getElem_cons_succ, List.getElem_cons_zero, List.setIfInBounds_toArray, List.set_cons_zero, List.set_cons_succ]
    refine wpAnyH_take (i := 10) (v := ?_) rfl (by kernel_rfl) (by kernel_rfl) (by kernel_rfl) (fun _ _ _ h => h) (Or.inl ⟨by kernel_rfl, ?_⟩) hH ?_
    rotate_left
    · intro W hS
      have q0 := hS.2.cell 0
      have q1 := hS.2.cell 1
      go_simp
      first | done | with_reducible rfl
    simp only [Act.put, List.getElem_toArray, List.getElem_cons_succ, List.getElem_cons_zero, List.setIfInBounds_toArray, List.set_cons_zero, List.set_cons_succ]
    refine wpAnyH_ready (rs := [11]) (by kernel_rfl) (by simp) ?_
    refine AllReadyH.cons rfl (fun K hK => ?_) AllReadyH.nil
    go_simp
    refine (C3.out V.drew _ (bytes_below HBYL.out ((Below.refl _ _).drew))).mono ?_
    rintro e w7 ⟨⟨v7, n7, k7, rfl, hv7, hp7⟩, hb7⟩
    have hH1 := And.intro (hH.1.below hb7) (hH.2.below hb7)
    refine hK.out _ _ hH1 (fun hH => ?_)
    clear hK K
    try simp only [Act.put, List.getElem_toArray, List.getElem_cons_succ, List.getElem_cons_zero, List.setIfInBounds_toArray, List.set_cons_zero, List.set_cons_succ]
    refine wpAnyH_take (i := 12) (v := ?_) rfl (by kernel_rfl) (by kernel_rfl) (by kernel_rfl) (fun _ _ _ h => h) (Or.inl ⟨by kernel_rfl, ?_⟩) hH ?_
    rotate_left
    · intro W hS
      have q0 := hS.2.cell 0
      have q1 := hS.2.cell 1
      go_simp
      first | done | with_reducible rfl
    simp only [Act.put, List.getElem_toArray, List.getElem_cons_succ, List.getElem_cons_zero, List.setIfInBounds_toArray, List.set_cons_zero, List.set_cons_succ]
    refine wpAnyH_take (i := 13) (v := ?_) rfl (by kernel_rfl) (by kernel_rfl) (by kernel_rfl) (fun _ _ _ h => h) (Or.inl ⟨by kernel_rfl, ?_⟩) hH ?_
    rotate_left
    · intro W hS
      have q0 := hS.2.cell 0
      have q1 := hS.2.cell 1
      go_simp
      first | done | with_reducible rfl
    simp only [Act.put, List.getElem_toArray, List.getElem_cons_succ, List.getElem_cons_zero, List.setIfInBounds_toArray, List.set_cons_zero, List.set_cons_succ]
    refine wpAnyH_take (i := 14) (v := ?_) rfl (by kernel_rfl) (by kernel_rfl) (by kernel_rfl) (fun _ _ _ h => h) (Or.inl ⟨by kernel_rfl, ?_⟩) hH ?_
    rotate_left
    · intro W hS
      have q0 := hS.2.cell 0
      have q1 := hS.2.cell 1
      go_simp
      first | done | with_reducible rfl
    simp only [Act.put, List.getElem_toArray, List.getElem_cons_succ, List.getElem_cons_zero, List.setIfInBounds_toArray, List.set_cons_zero, List.set_cons_succ]
    refine wpAnyH_take (i := 15) (v := ?_) rfl (by kernel_rfl) (by kernel_rfl) (by kernel_rfl) (fun _ _ _ h => h) (Or.inl ⟨by kernel_rfl, ?_⟩) hH ?_
    rotate_left
    · intro W hS
      have q0 := hS.2.cell 0
      have q1 := hS.2.cell 1
      go_simp
      first | done | with_reducible rfl
    simp only [Act.put, List.getElem_toArray, List.getElem_cons_succ, List.getElem_cons_zero, List.setIfInBounds_toArray, List.set_cons_zero, List.set_cons_succ]
    refine wpAnyH_take (i := 16) (v := ?_) rfl (by kernel_rfl) (by kernel_rfl) (by kernel_rfl) (fun _ _ _ h => h) (Or.inl ⟨by kernel_rfl, ?_⟩) hH ?_
    rotate_left
    · intro W hS
      have q0 := hS.2.cell 0
      have q1 := hS.2.cell 1
      go_simp
      first | done | with_reducible rfl
    simp only [Act.put, List.getElem_toArray, List.getElem_cons_succ, List.getElem_cons_zero, List.setIfInBounds_toArray, List.set_cons_zero, List.set_cons_succ]
    refine wpAnyH_take (i := 17) (v := ?_) rfl (by kernel_rfl) (by kernel_rfl) (by kernel_rfl) (fun _ _ _ h => h) (Or.inl ⟨by kernel_rfl, ?_⟩) hH ?_
    rotate_left
    · intro W hS
      have q0 := hS.2.cell 0
      have q1 := hS.2.cell 1
      go_simp
      first | done | with_reducible rfl
    simp only [Act.put, List.getElem_toArray, List.getElem_cons_succ, List.getElem_cons_zero, List.setIfInBounds_toArray, List.set_cons_zero, List.set_cons_succ]
    refine wpAnyH_take (i := 18) (v := ?_) rfl (by kernel_rfl) (by kernel_rfl) (by kernel_rfl) (fun _ _ _ h => h) (Or.inl ⟨by kernel_rfl, ?_⟩) hH ?_
    rotate_left
    · intro W hS
      have q0 := hS.2.cell 0
      have q1 := hS.2.cell 1
      go_simp
      first | done | with_reducible rfl
    simp only [Act.put, List.getElem_toArray, List.getElem_cons_succ, List.getElem_cons_zero, List.setIfInBounds_toArray, List.set_cons_zero, List.set_cons_succ]
    refine wpAnyH_done (by kernel_rfl) ?_ _
    have hb8 : Below V.heap.size V w7 := ((Below.refl _ _).drew).trans hb7
    replace hdV := hdV.below hb8
    replace hresV := hresV.below hb8
    replace hhV := hhV.below hb8
    replace hflV := hflV.below hb8
    replace HBV := chain2 HBV HBV.size hb8
    have hge : w.heap.size ≤ w7.heap.size := HBV.size
    clear hb7 hb8 hH1 hH hfV hrowV HLOW HBYL C3 hv7
    have hXo := HX1.out
    cases hbx : bodyX kk m closed (came.drop n) with
    | error z =>
      rw [hbx] at hp7 hXo
      obtain ⟨rfl, hz0⟩ := hp7
      have hzz := bodyX_err hbx
      have HX := hid hXo
      have hc0 : ((k7 : Int) != 0) = true := by simp; omega
      have hhe : headE closed came k7 = k7 := by
        unfold headE
        rw [if_neg]
        rintro ⟨h1, h2⟩
        rcases hzz with h | ⟨_, h⟩ | h | h
        · omega
        · rw [h2] at h; cases h
        · omega
        · omega
      clear hXo HX1 hbx hhV hflV
      have cf := docFail_any g (.slice ao came.length cap) ⟨came, closed, 0⟩ k7 w7 hdV rfl (by omega)
      have hHE : headE closed came k7 = k7 := hhe
      unfold DocFail at cf
      simp only [hHE] at cf
      have CF := hid cf
      have HZ := hid (And.intro hz0 HBV)
      have HRV := hid hresV
      clear cf hHE hdV hresV HBV hz0
      go_wp2_with fail
      refine CF.out.mono ?_
      rintro e w9 ⟨rfl, hd9, hk9⟩
      have hgr : ¬ w.heap.size = g := by have := HD.out.1; omega
      have hres9 := HRV.out.kept hk9 hgr
      have HD9 := hid hd9
      have HK9 := hid hk9
      clear hd9 hk9 CF
      go_wp2_with (refine wpList_store_row rfl 47 _ _ rfl w.heap.size _ rfl rfl 47 #[.string ⟨#[]⟩, .string ⟨#[]⟩, .int .i64 0, .int .i64 0, .slice none 0 0] hres9 infoHdS rfl (one5 [] [] 0 0 none 0 0) ?_)
      refine bodyPost_ret (results_row3 Tryz.results9 _ _ w.heap.size _ rfl (hres9.setRow _) Tryz.underlying47 rfl infoHdS) rfl ?_
      rw [← HX.out]
      exact ⟨⟨HZ.out.1, rfl⟩, _, HD9.out.setRow (fun e => hgr e.symm) HD.out.2 _, (((Kept.of_below HZ.out.2).trans HK9.out (fun k hk _ => hk)).setRow (.inr (Nat.le_refl _)) _), fun k hk => hk⟩
    | ok bu =>
      obtain ⟨b, u⟩ := bu
      rw [hbx] at hp7 hXo
      obtain ⟨rfl, rfl, hbv⟩ := hp7
      have hul := (bodyX_len hbx).1
      rw [List.length_drop] at hul
      have hnu : n + n7 ≤ came.length := by have := HP.out.2; omega
      have hl8 := HL.out
      have hwr : IntKind.i64.wrap ((n : Int) + (n7 : Int)) = ((n + n7 : Nat) : Int) := by rw [IntWalk.i64_in _ (by omega)]; simp
      obtain ⟨ao2, cap2, hlow2, hby2, hin2⟩ := bytes_low_in (P := Tryz.prog) 27 (by kernel_rfl) (fun _ => by kernel_rfl) hdV.by' (n + n7) hnu
      have hgw := HD.out.1
      have hne1 : w.heap.size ≠ g := by omega
      have hne2 : w1.heap.size ≠ g := by omega
      have s0 := hdV.row.cell 0
      have f0 := hdV.row.free 0
      have hres8 := hresV.setCell_block hne1 0 (.slice ao2 (came.length - (n + n7)) cap2)
      have hh8 := hhV.setCell_block hne2 0 (.slice ao2 (came.length - (n + n7)) cap2)
      have hd8 := hdV.row.setCell 0 (.slice ao2 (came.length - (n + n7)) cap2)
      have q0 := hh8.cell 0
      have q1 := hh8.cell 1
      have q2 := hh8.cell 2
      have q3 := hh8.cell 3
      have q4 := hh8.cell 4
      have HLOW2 := hid hlow2
      have HIN2 := hid hin2
      have HX := hid hXo
      have HF := hid (And.intro hflV (And.intro hbv (And.intro hby2 hdV.row)))
      have HR8 := hid (And.intro hres8 hd8)
      have HBK := hid (And.intro HBV hresV)
      have HW := hid (And.intro hgw (And.intro hge hw1))
      have HW0 := hid hw0
      clear hlow2 hin2 hXo HX1 hbx hflV hbv hby2 hd8 hresV hhV HBV hul hne1 hne2 hh8 hgw
      go_wp2_with (first
        | (refine wpList_slice_low rfl 27 _ _ rfl rfl rfl (by kernel_rfl) (HLOW2.out _) ?_)
        | (refine wpList_store_row rfl 47 _ _ rfl w.heap.size _ rfl rfl 47 #[.string ⟨#[]⟩, .string ⟨#[]⟩, .int .i64 0, .int .i64 0, .slice none 0 0] hres8 infoHdS rfl (one5 _ _ _ _ _ _ _) ?_))
      refine bodyPost_ret (results_row3 Tryz.results9 _ _ w.heap.size _ rfl (hres8.setRow _) Tryz.underlying47 rfl infoHdS) rfl ?_
      rw [← HX.out]
      obtain ⟨hflV, hbv, hby2, hrow7⟩ := HF.out
      obtain ⟨hres8b, hd8⟩ := HR8.out
      obtain ⟨hgw, hge2, hw1b⟩ := HW.out
      have hw0b := HW0.out
      have hk1 : Kept (fun k => k = g) w7 (w7.setCell ⟨g, 0, none⟩ (.slice ao2 (came.length - (n + n7)) cap2)) := (Kept.refl (fun k => k = g) w7).setCell (.inl rfl) _
      have hk2 : ∀ cs, Kept (fun k => k = w.heap.size) (w7.setCell ⟨g, 0, none⟩ (.slice ao2 (came.length - (n + n7)) cap2)) ((w7.setCell ⟨g, 0, none⟩ (.slice ao2 (came.length - (n + n7)) cap2)).setRow w.heap.size cs) := fun cs => (Kept.refl (fun k => k = w.heap.size) _).setRow (.inl rfl) cs
      refine ⟨⟨_, _, rfl, ?_, ?_, fun k hk => by have := HLI.out k hk; omega⟩, _, ⟨hd8.setRow_other _ (by omega), ?_, ?_⟩, ?_, HIN2.out⟩
      · exact reads2_kept (reads2_kept hflV hk1 (fun k hk e => by have := HLI.out k hk; have : k = g := e; omega)) (hk2 _) (fun k hk e => by have := HLI.out k hk; have : k = w.heap.size := e; omega)
      · exact bytes_kept_row (bytes_kept_row hbv hrow7 (no_bytes3 _ _ _ _ _) hk1) hres8b no_bytes5 (hk2 _)
      · exact bytes_kept (bytes_kept hby2 hk1 (fun k hk e => (HAP.out k (HIN2.out k hk)).1 e)) (hk2 _) (fun k hk e => by have := (HAP.out k (HIN2.out k hk)).2; have : k = w.heap.size := e; omega)
      · exact fun k hk => ⟨(HAP.out k (HIN2.out k hk)).1, by have := (HAP.out k (HIN2.out k hk)).2; simp [World.setRow, World.setCell]; omega⟩
      · exact ((Kept.of_below HBK.out.1).trans hk1 (fun k hk _ => hk)).setRow (.inr (Nat.le_refl _)) _
end Go.Proofs.YtefplhkjcclppaaGreatDoor
/-
  The document's reader of layer 7: Next behind a head that is read (responses).
-/
namespace Go.Pantry
open Go.RowKit
theorem resFr_err2 {hd : Bool} {h : Hd} {k : Nat} (hf : resFr hd h = .error k) : k = 23 ∨ k = 24 := by
  unfold resFr at hf
  split at hf
  · cases hf
  · exact frameX_err hf
theorem resFr_small {hd : Bool} {h : Hd} {k m : Nat} (hf : resFr hd h = .ok (k, m)) : k ≤ 3 ∧ m ≤ 2048 := by
  unfold resFr at hf
  split at hf
  · cases hf; exact ⟨by decide, by decide⟩
  · have h1 := frameX_ok hf
    simp only at h1
    omega
end Go.Pantry
namespace Go.Proofs.YtefplhkjcclppaaGreatDoor
open Go.RowKit Go.Pantry

set_option maxRecDepth 100000 in
set_option maxHeartbeats 16000000 in
theorem docNext_s (mt : List UInt8) (g : Nat) (v : Value) (s : Rd) (w : World) (h : DocAt w g v s) (hw : s.wrong = 0) (hl : s.came.length ≤ 8192) {hh : Hd} {n : Nat} (hk : readL resL s.came = .ok (hh, n)) {X : Except Nat (Hd × List UInt8) × Rd} (hX : nextX (readL resL) (resFr (mt == [72, 69, 65, 68])) s = X) :
    Calls Tryz.prog 9 #[.pointer (some ⟨g, 0, none⟩), .bool false, strV mt] w fun e w' => DocMsg g v X w e w' := by
  have hap0 := h.apart
  obtain ⟨came, closed, wrong⟩ := s
  obtain ⟨ao, cap, rfl, hcap⟩ := bytes_form h.by'
  obtain ⟨W0, hW0⟩ : ∃ W, W = w.alloc (.cells #[.string ⟨#[]⟩, .string ⟨#[]⟩, .int .i64 0, .int .i64 0, .slice none 0 0] 47) := ⟨_, rfl⟩
  have hb0 : Below w.heap.size w W0 := by rw [hW0]; exact below_alloc _ _
  have hres : rowIs W0 w.heap.size #[.string ⟨#[]⟩, .string ⟨#[]⟩, .int .i64 0, .int .i64 0, .slice none 0 0] 47 := by rw [hW0]; exact rowIs_new _ _ _
  have hd : DocAt W0 g (.slice ao came.length cap) ⟨came, closed, wrong⟩ := h.below hb0
  have hgl := h.row.lt
  have hvl : In (fun k => k ≠ w.heap.size) (.slice ao came.length cap) := h.apart.mono fun k hk => by omega
  simp only at hw hl hk
  subst hw
  have HAP := hid hap0
  unfold nextX at hX
  simp only [ne_eq, not_true_eq_false, if_false] at hX
  rw [hk] at hX
  simp only at hX
  have hpos := readL_pos hk
  have hfl := okFs_read_s hk
  have c1 := refRead_any ao cap came false W0 (bytesRead hd.by') (by omega)
  rw [if_neg (by decide), hk] at c1
  have C1 := hid c1
  have C2 := hid (fun W u h1 => refOfResponse_any mt hh.first hh.second (hh.status : Int) (hh.minor : Int) u hh.flds W h1 hfl.1 hfl.2)
  have s0 := hd.row.cell 0
  have s2 := hd.row.cell 2
  rw [hW0] at s0 s2
  have HD := hid (And.intro hgl hvl)
  have HP := hid hpos
  have HXo := hid hX
  have HL := hid hl
  clear h hgl hvl hcap c1 hk hpos hfl hX hap0
  go_enter Tryz.func9, Tryz.ntmps9
  go_wp2_with fail
  rw [← hW0]
  clear hW0 s0 s2
  refine C1.out.mono ?_
  rintro e w1 ⟨⟨vl, rfl, hol⟩, hb1⟩
  obtain ⟨aol, cl, rfl⟩ := ownsRow_form hol
  have HLI := hid (show ∀ k, (Value.slice aol hh.flds.length cl).ownBlock = some k → W0.heap.size ≤ k ∧ k < w1.heap.size from fun k hk => hol.lt k hk)
  obtain ⟨W2, hW2⟩ : ∃ W, W = w1.alloc (.cells #[strV hh.first, strV hh.second, .int .i64 (hh.status : Int), .int .i64 (hh.minor : Int), .slice aol hh.flds.length cl] 47) := ⟨_, rfl⟩
  have hbA : Below w1.heap.size w1 W2 := by rw [hW2]; exact below_alloc _ _
  have hhb : rowIs W2 w1.heap.size #[strV hh.first, strV hh.second, .int .i64 (hh.status : Int), .int .i64 (hh.minor : Int), .slice aol hh.flds.length cl] 47 := by rw [hW2]; exact rowIs_new _ _ _
  have hb2 : Below W0.heap.size W0 W2 := hb1.trans (hbA.mono hb1.size)
  have hd2 := hd.below hb2
  have hres2 := hres.below hb2
  have hol2 := hol.below hbA
  have hbw2 := chain2 hb0 hb0.size hb2
  have hw1 : W0.heap.size ≤ w1.heap.size := hb1.size
  have hw0 : w.heap.size < W0.heap.size := hres.lt
  clear hd hres hol hb1 hbA hb2 hb0 C1
  go_wp2_with fail
  rw [← hW2]
  clear hW2
  have g0 := hhb.cell 0
  have g1 := hhb.cell 1
  have g2 := hhb.cell 2
  have g3 := hhb.cell 3
  have g4 := hhb.cell 4
  go_wp2_with fail
  refine (C2.out _ _ (hol2.reads2).2).mono ?_
  rintro e w3 ⟨hf3, hb3⟩
  obtain ⟨a1, a2, a3, hfx, rfl⟩ := hf3.form
  obtain ⟨W4, hW4⟩ : ∃ W, W = w3.alloc (.cells #[.int .i64 a1, .int .i64 a2] 72) := ⟨_, rfl⟩
  have hbB : Below w3.heap.size w3 W4 := by rw [hW4]; exact below_alloc _ _
  have hfb : rowIs W4 w3.heap.size #[.int .i64 a1, .int .i64 a2] 72 := by rw [hW4]; exact rowIs_new _ _ _
  have hb4 : Below W2.heap.size W2 W4 := hb3.trans (hbB.mono hb3.size)
  have hd4 := hd2.below hb4
  have hres4 := hres2.below hb4
  have hhb4 := hhb.below hb4
  have hol4 := hol2.below hb4
  have hbw4 := chain2 hbw2 hbw2.size hb4
  have hl1 := hhb.lt
  have hl3 : W2.heap.size ≤ w3.heap.size := hb3.size
  have HL4 := hid hfb.lt
  clear hf3 hb3 hbB hb4 hd2 hres2 hhb hol2 hbw2 C2 g0 g1 g2 g3 g4
  have HX0 := HXo.out
  skip
  have hFe : ∀ z, resFr (mt == [72, 69, 65, 68]) hh = .error z → z = 23 ∨ z = 24 := fun z hz => resFr_err2 hz
  have hFo : ∀ k m, resFr (mt == [72, 69, 65, 68]) hh = .ok (k, m) → k ≤ 3 ∧ m ≤ 2048 := fun k m hz => resFr_small hz
  change fK (resFr (mt == [72, 69, 65, 68]) hh) = _ at hfx
  obtain ⟨FX, hFX⟩ : ∃ FX, resFr (mt == [72, 69, 65, 68]) hh = FX := ⟨_, rfl⟩
  skip
  rw [hFX] at hFe hFo hfx HX0
  have HXX := hid HX0
  clear HXo HX0 hFX
  cases FX with
  | error z =>
    have hzz := hFe z rfl
    have hz0 : z ≠ 0 := by omega
    simp only [fK, Prod.mk.injEq] at hfx
    obtain ⟨rfl, rfl, rfl⟩ := hfx
    have HX := HXX
    have hc0 : ((z : Int) != 0) = true := by simp; omega
    have hfV : rowIs W4 w3.heap.size #[.int .i64 0, .int .i64 0] 72 := hfb
    have hdV := hd4
    have hresV := hres4
    have hhV := hhb4
    have hflV := (hol4.reads2).2
    have HBV := hbw4
    clear hfb hd4 hres4 hhb4 hol4 hbw4 hhV hflV hfV hFe hFo HXX
    go_wp2_with fail
    rw [← hW4]
    clear hW4
    have cf := docFail_any g (.slice ao came.length cap) ⟨came, closed, 0⟩ z W4 hdV rfl (by omega)
    have hHE : headE closed came z = z := by unfold headE; rw [if_neg (by omega)]
    unfold DocFail at cf
    simp only [hHE] at cf
    have CF := hid cf
    have HZ := hid (And.intro hz0 HBV)
    have HRV := hid hresV
    clear cf hHE hdV hresV HBV hz0
    refine CF.out.mono ?_
    rintro e w9 ⟨rfl, hd9, hk9⟩
    have hgr : ¬ w.heap.size = g := by have := HD.out.1; omega
    have hres9 := HRV.out.kept hk9 hgr
    have HD9 := hid hd9
    have HK9 := hid hk9
    clear hd9 hk9 CF
    go_wp2_with (refine wpList_store_row rfl 47 _ _ rfl w.heap.size _ rfl rfl 47 #[.string ⟨#[]⟩, .string ⟨#[]⟩, .int .i64 0, .int .i64 0, .slice none 0 0] hres9 infoHdS rfl (one5 [] [] 0 0 none 0 0) ?_)
    refine bodyPost_ret (results_row3 Tryz.results9 _ _ w.heap.size _ rfl (hres9.setRow _) Tryz.underlying47 rfl infoHdS) rfl ?_
    rw [← HX.out]
    exact ⟨⟨HZ.out.1, rfl⟩, _, HD9.out.setRow (fun e => hgr e.symm) HD.out.2 _, (((Kept.of_below HZ.out.2).trans HK9.out (fun k hk _ => hk)).setRow (.inr (Nat.le_refl _)) _), fun k hk => hk⟩
  | ok km =>
    obtain ⟨kk, m⟩ := km
    obtain ⟨hk3, hm⟩ := hFo kk m rfl
    simp only [fK, Prod.mk.injEq] at hfx
    obtain ⟨rfl, rfl, rfl⟩ := hfx
    have hXo := HXX.out
    simp only at hXo
    have hfV : rowIs W4 w3.heap.size #[.int .i64 (kk : Int), .int .i64 (m : Int)] 72 := hfb
    have hdV := hd4
    have hresV := hres4
    have hhV := hhb4
    have hflV := (hol4.reads2).2
    have HBV := hbw4
    clear hfb hd4 hres4 hhb4 hol4 hbw4 hFe hFo HXX
    have c3 := fun W u hu => refReadB_any kk m u (came.drop n) closed W hu (by rw [List.length_drop]; have := HL.out; omega) hm hk3
    obtain ⟨aoL, capL, hlow, hbyL, hinL⟩ := bytes_low_in (P := Tryz.prog) 27 (by kernel_rfl) (fun _ => by kernel_rfl) hdV.by' n HP.out.2
    have HLOW := hid hlow
    have HBYL := hid hbyL
    have C3 := hid c3
    have HX1 := hid hXo
    have hrowV := hdV.row
    clear c3 hlow hbyL hinL hXo
    go_wp2_with fail
    rw [← hW4]
    clear hW4
    refine wp_region_held_drew (S := fun W => rowIs W w3.heap.size #[.int .i64 (kk : Int), .int .i64 (m : Int)] 72 ∧ rowIs W g #[.slice ao came.length cap, .bool closed, .int .i64 0] 29) (by kernel_rfl) ⟨hfV, hrowV⟩ (fun hH => ?_)
    refine wpAnyH_take (i := 0) (v := (.agg #[.int .i64 (kk : Int), .int .i64 (m : Int)])) rfl (by kernel_rfl) (by kernel_rfl) (by kernel_rfl) (fun _ _ _ h => h) (Or.inl ⟨by kernel_rfl, ?_⟩) hH ?_
    · intro W hS
      exact load_gives rfl w3.heap.size rfl hS.1 Tryz.underlying72 rfl infoFr6
    simp only [Act.put, List.getElem_toArray, List.getElem_cons_succ, List.getElem_cons_zero, List.setIfInBounds_toArray, List.set_cons_zero, List.set_cons_succ]
    refine wpAnyH_take (i := 1) (v := ?_) rfl (by kernel_rfl) (by kernel_rfl) (by kernel_rfl) (fun _ _ _ h => h) (Or.inl ⟨by kernel_rfl, ?_⟩) hH ?_
    rotate_left
    · intro W hS
      have q0 := hS.2.cell 0
      have q1 := hS.2.cell 1
      go_simp
      first | done | with_reducible rfl
    simp only [Act.put, List.getElem_toArray, List.getElem_cons_succ, List.getElem_cons_zero, List.setIfInBounds_toArray, List.set_cons_zero, List.set_cons_succ]
    refine wpAnyH_take (i := 2) (v := ?_) rfl (by kernel_rfl) (by kernel_rfl) (by kernel_rfl) (fun _ _ _ h => h) (Or.inl ⟨by kernel_rfl, ?_⟩) hH ?_
    rotate_left
    · intro W hS
      have q0 := hS.2.cell 0
      have q1 := hS.2.cell 1
      go_simp
      first | done | with_reducible rfl
    simp only [Act.put, List.getElem_toArray, List.getElem_cons_succ, List.getElem_cons_zero, List.setIfInBounds_toArray, List.set_cons_zero, List.set_cons_succ]
    refine wpAnyH_take (i := 3) (v := ?_) rfl (by kernel_rfl) (by kernel_rfl) (by kernel_rfl) (fun _ _ _ h => h) (Or.inl ⟨by kernel_rfl, ?_⟩) hH ?_
    rotate_left
    · intro W hS
      have q0 := hS.2.cell 0
      have q1 := hS.2.cell 1
      go_simp
      first | done | with_reducible rfl
    simp only [Act.put, List.getElem_toArray, List.getElem_cons_succ, List.getElem_cons_zero, List.setIfInBounds_toArray, List.set_cons_zero, List.set_cons_succ]
    refine wpAnyH_take (i := 4) (v := ?_) rfl (by kernel_rfl) (by kernel_rfl) (by kernel_rfl) (fun _ _ _ h => h) (Or.inl ⟨by kernel_rfl, ?_⟩) hH ?_
    rotate_left
    · intro W hS
      have q0 := hS.2.cell 0
      have q1 := hS.2.cell 1
      go_simp
      first | done | with_reducible rfl
    simp only [Act.put, List.getElem_toArray, List.getElem_cons_succ, List.getElem_cons_zero, List.setIfInBounds_toArray, List.set_cons_zero, List.set_cons_succ]
    refine wpAnyH_take (i := 5) (v := ?_) rfl (by kernel_rfl) (by kernel_rfl) (by kernel_rfl) (fun _ _ _ h => h) (Or.inl ⟨by kernel_rfl, ?_⟩) hH ?_
    rotate_left
    · intro W hS
      have q0 := hS.2.cell 0
      have q1 := hS.2.cell 1
      go_simp
      first | done | with_reducible rfl
    simp only [Act.put, List.getElem_toArray, List.getElem_cons_succ, List.getElem_cons_zero, List.setIfInBounds_toArray, List.set_cons_zero, List.set_cons_succ]
    refine wpAnyH_take (i := 6) (v := (.slice aoL (came.length - n) capL)) rfl (by kernel_rfl) (by kernel_rfl) (by kernel_rfl) (fun _ _ _ h => h) (Or.inl ⟨by kernel_rfl, ?_⟩) hH ?_
    · intro W hS
      exact slice_gives rfl rfl rfl (by kernel_rfl) (HLOW.out _)
    simp only [Act.put, List.getElem_toArray, List.getElem_cons_succ, List.getElem_cons_zero, List.setIfInBounds_toArray, List.set_cons_zero, List.set_cons_succ]
    refine wpAnyH_take (i := 7) (v := ?_) rfl (by kernel_rfl) (by kernel_rfl) (by kernel_rfl) (fun _ _ _ h => h) (Or.inl ⟨by kernel_rfl, ?_⟩) hH ?_
    rotate_left
    · intro W hS
      have q0 := hS.2.cell 0
      have q1 := hS.2.cell 1
      go_simp
      first | done | with_reducible rfl
    simp only [Act.put, List.getElem_toArray, List.getElem_cons_succ, List.getElem_cons_zero, List.setIfInBounds_toArray, List.set_cons_zero, List.set_cons_succ]
    refine wpAnyH_take (i := 8) (v := ?_) rfl (by kernel_rfl) (by kernel_rfl) (by kernel_rfl) (fun _ _ _ h => h) (Or.inl ⟨by kernel_rfl, ?_⟩) hH ?_
    rotate_left
    · intro W hS
      have q0 := hS.2.cell 0
      have q1 := hS.2.cell 1
      go_simp
      first | done | with_reducible rfl
    simp only [Act.put, List.getElem_toArray, List.getElem_cons_succ, List.getElem_cons_zero, List.setIfInBounds_toArray, List.set_cons_zero, List.set_cons_succ]
    refine wpAnyH_take (i := 9) (v := ?_) rfl (by kernel_rfl) (by kernel_rfl) (by kernel_rfl) (fun _ _ _ h => h) (Or.inl ⟨by kernel_rfl, ?_⟩) hH ?_
    rotate_left
    · intro W hS
      have q0 := hS.2.cell 0
      have q1 := hS.2.cell 1
      go_simp
      first | done | with_reducible rfl
    simp only [Act.put, List.getElem_toArray, List.getElem_cons_succ, List.getElem_cons_zero, List.setIfInBounds_toArray, List.set_cons_zero, List.set_cons_succ]
    refine wpAnyH_take (i := 10) (v := ?_) rfl (by kernel_rfl) (by kernel_rfl) (by kernel_rfl) (fun _ _ _ h => h) (Or.inl ⟨by kernel_rfl, ?_⟩) hH ?_
    rotate_left
    · intro W hS
      have q0 := hS.2.cell 0
      have q1 := hS.2.cell 1
      go_simp
      first | done | with_reducible rfl
    simp only [Act.put, List.getElem_toArray, List.getElem_cons_succ, List.getElem_cons_zero, List.setIfInBounds_toArray, List.set_cons_zero, List.set_cons_succ]
    refine wpAnyH_ready (rs := [11]) (by kernel_rfl) (by simp) ?_
    refine AllReadyH.cons rfl (fun K hK => ?_) AllReadyH.nil
    go_simp
    refine (C3.out W4.drew _ (bytes_below HBYL.out ((Below.refl _ _).drew))).mono ?_
    rintro e w7 ⟨⟨v7, n7, k7, rfl, hv7, hp7⟩, hb7⟩
    have hH1 := And.intro (hH.1.below hb7) (hH.2.below hb7)
    refine hK.out _ _ hH1 (fun hH => ?_)
    clear hK K
    try simp only [Act.put, List.getElem_toArray, List.getElem_cons_succ, List.getElem_cons_zero, List.setIfInBounds_toArray, List.set_cons_zero, List.set_cons_succ]
    refine wpAnyH_take (i := 12) (v := ?_) rfl (by kernel_rfl) (by kernel_rfl) (by kernel_rfl) (fun _ _ _ h => h) (Or.inl ⟨by kernel_rfl, ?_⟩) hH ?_
    rotate_left
    · intro W hS
      have q0 := hS.2.cell 0
      have q1 := hS.2.cell 1
      go_simp
      first | done | with_reducible rfl
    simp only [Act.put, List.getElem_toArray, List.getElem_cons_succ, List.getElem_cons_zero, List.setIfInBounds_toArray, List.set_cons_zero, List.set_cons_succ]
    refine wpAnyH_take (i := 13) (v := ?_) rfl (by kernel_rfl) (by kernel_rfl) (by kernel_rfl) (fun _ _ _ h => h) (Or.inl ⟨by kernel_rfl, ?_⟩) hH ?_
    rotate_left
    · intro W hS
      have q0 := hS.2.cell 0
      have q1 := hS.2.cell 1
      go_simp
      first | done | with_reducible rfl
    simp only [Act.put, List.getElem_toArray, List.getElem_cons_succ, List.getElem_cons_zero, List.setIfInBounds_toArray, List.set_cons_zero, List.set_cons_succ]
    refine wpAnyH_take (i := 14) (v := ?_) rfl (by kernel_rfl) (by kernel_rfl) (by kernel_rfl) (fun _ _ _ h => h) (Or.inl ⟨by kernel_rfl, ?_⟩) hH ?_
    rotate_left
    · intro W hS
      have q0 := hS.2.cell 0
      have q1 := hS.2.cell 1
      go_simp
      first | done | with_reducible rfl
    simp only [Act.put, List.getElem_toArray, List.getElem_cons_succ, List.getElem_cons_zero, List.setIfInBounds_toArray, List.set_cons_zero, List.set_cons_succ]
    refine wpAnyH_take (i := 15) (v := ?_) rfl (by kernel_rfl) (by kernel_rfl) (by kernel_rfl) (fun _ _ _ h => h) (Or.inl ⟨by kernel_rfl, ?_⟩) hH ?_
    rotate_left
    · intro W hS
      have q0 := hS.2.cell 0
      have q1 := hS.2.cell 1
      go_simp
      first | done | with_reducible rfl
    simp only [Act.put, List.getElem_toArray, List.getElem_cons_succ, List.getElem_cons_zero, List.setIfInBounds_toArray, List.set_cons_zero, List.set_cons_succ]
    refine wpAnyH_take (i := 16) (v := ?_) rfl (by kernel_rfl) (by kernel_rfl) (by kernel_rfl) (fun _ _ _ h => h) (Or.inl ⟨by kernel_rfl, ?_⟩) hH ?_
    rotate_left
    · intro W hS
      have q0 := hS.2.cell 0
      have q1 := hS.2.cell 1
      go_simp
      first | done | with_reducible rfl
    simp only [Act.put, List.getElem_toArray, List.getElem_cons_succ, List.getElem_cons_zero, List.setIfInBounds_toArray, List.set_cons_zero, List.set_cons_succ]
    refine wpAnyH_take (i := 17) (v := ?_) rfl (by kernel_rfl) (by kernel_rfl) (by kernel_rfl) (fun _ _ _ h => h) (Or.inl ⟨by kernel_rfl, ?_⟩) hH ?_
    rotate_left
    · intro W hS
      have q0 := hS.2.cell 0
      have q1 := hS.2.cell 1
      go_simp
      first | done | with_reducible rfl
    simp only [Act.put, List.getElem_toArray, List.getElem_cons_succ, List.getElem_cons_zero, List.setIfInBounds_toArray, List.set_cons_zero, List.set_cons_succ]
    refine wpAnyH_take (i := 18) (v := ?_) rfl (by kernel_rfl) (by kernel_rfl) (by kernel_rfl) (fun _ _ _ h => h) (Or.inl ⟨by kernel_rfl, ?_⟩) hH ?_
    rotate_left
    · intro W hS
      have q0 := hS.2.cell 0
      have q1 := hS.2.cell 1
      go_simp
      first | done | with_reducible rfl
    simp only [Act.put, List.getElem_toArray, List.getElem_cons_succ, List.getElem_cons_zero, List.setIfInBounds_toArray, List.set_cons_zero, List.set_cons_succ]
    refine wpAnyH_done (by kernel_rfl) ?_ _
    have hb8 : Below W4.heap.size W4 w7 := ((Below.refl _ _).drew).trans hb7
    replace hdV := hdV.below hb8
    replace hresV := hresV.below hb8
    replace hhV := hhV.below hb8
    replace hflV := hflV.below hb8
    replace HBV := chain2 HBV HBV.size hb8
    have hge : w.heap.size ≤ w7.heap.size := HBV.size
    clear hb7 hb8 hH1 hH hfV hrowV HLOW HBYL C3 hv7
    have hXo := HX1.out
    cases hbx : bodyX kk m closed (came.drop n) with
    | error z =>
      rw [hbx] at hp7 hXo
      obtain ⟨rfl, hz0⟩ := hp7
      have hzz := bodyX_err hbx
      have HX := hid hXo
      have hc0 : ((k7 : Int) != 0) = true := by simp; omega
      have hhe : headE closed came k7 = k7 := by
        unfold headE
        rw [if_neg]
        rintro ⟨h1, h2⟩
        rcases hzz with h | ⟨_, h⟩ | h | h
        · omega
        · rw [h2] at h; cases h
        · omega
        · omega
      clear hXo HX1 hbx hhV hflV
      have cf := docFail_any g (.slice ao came.length cap) ⟨came, closed, 0⟩ k7 w7 hdV rfl (by omega)
      have hHE : headE closed came k7 = k7 := hhe
      unfold DocFail at cf
      simp only [hHE] at cf
      have CF := hid cf
      have HZ := hid (And.intro hz0 HBV)
      have HRV := hid hresV
      clear cf hHE hdV hresV HBV hz0
      go_wp2_with fail
      refine CF.out.mono ?_
      rintro e w9 ⟨rfl, hd9, hk9⟩
      have hgr : ¬ w.heap.size = g := by have := HD.out.1; omega
      have hres9 := HRV.out.kept hk9 hgr
      have HD9 := hid hd9
      have HK9 := hid hk9
      clear hd9 hk9 CF
      go_wp2_with (refine wpList_store_row rfl 47 _ _ rfl w.heap.size _ rfl rfl 47 #[.string ⟨#[]⟩, .string ⟨#[]⟩, .int .i64 0, .int .i64 0, .slice none 0 0] hres9 infoHdS rfl (one5 [] [] 0 0 none 0 0) ?_)
      refine bodyPost_ret (results_row3 Tryz.results9 _ _ w.heap.size _ rfl (hres9.setRow _) Tryz.underlying47 rfl infoHdS) rfl ?_
      rw [← HX.out]
      exact ⟨⟨HZ.out.1, rfl⟩, _, HD9.out.setRow (fun e => hgr e.symm) HD.out.2 _, (((Kept.of_below HZ.out.2).trans HK9.out (fun k hk _ => hk)).setRow (.inr (Nat.le_refl _)) _), fun k hk => hk⟩
    | ok bu =>
      obtain ⟨b, u⟩ := bu
      rw [hbx] at hp7 hXo
      obtain ⟨rfl, rfl, hbv⟩ := hp7
      have hul := (bodyX_len hbx).1
      rw [List.length_drop] at hul
      have hnu : n + n7 ≤ came.length := by have := HP.out.2; omega
      have hl8 := HL.out
      have hwr : IntKind.i64.wrap ((n : Int) + (n7 : Int)) = ((n + n7 : Nat) : Int) := by rw [IntWalk.i64_in _ (by omega)]; simp
      obtain ⟨ao2, cap2, hlow2, hby2, hin2⟩ := bytes_low_in (P := Tryz.prog) 27 (by kernel_rfl) (fun _ => by kernel_rfl) hdV.by' (n + n7) hnu
      have hgw := HD.out.1
      have hne1 : w.heap.size ≠ g := by omega
      have hne2 : w1.heap.size ≠ g := by omega
      have s0 := hdV.row.cell 0
      have f0 := hdV.row.free 0
      have hres8 := hresV.setCell_block hne1 0 (.slice ao2 (came.length - (n + n7)) cap2)
      have hh8 := hhV.setCell_block hne2 0 (.slice ao2 (came.length - (n + n7)) cap2)
      have hd8 := hdV.row.setCell 0 (.slice ao2 (came.length - (n + n7)) cap2)
      have q0 := hh8.cell 0
      have q1 := hh8.cell 1
      have q2 := hh8.cell 2
      have q3 := hh8.cell 3
      have q4 := hh8.cell 4
      have HLOW2 := hid hlow2
      have HIN2 := hid hin2
      have HX := hid hXo
      have HF := hid (And.intro hflV (And.intro hbv (And.intro hby2 hdV.row)))
      have HR8 := hid (And.intro hres8 hd8)
      have HBK := hid (And.intro HBV hresV)
      have HW := hid (And.intro hgw (And.intro hge hw1))
      have HW0 := hid hw0
      clear hlow2 hin2 hXo HX1 hbx hflV hbv hby2 hd8 hresV hhV HBV hul hne1 hne2 hh8 hgw
      go_wp2_with (first
        | (refine wpList_slice_low rfl 27 _ _ rfl rfl rfl (by kernel_rfl) (HLOW2.out _) ?_)
        | (refine wpList_store_row rfl 47 _ _ rfl w.heap.size _ rfl rfl 47 #[.string ⟨#[]⟩, .string ⟨#[]⟩, .int .i64 0, .int .i64 0, .slice none 0 0] hres8 infoHdS rfl (one5 _ _ _ _ _ _ _) ?_))
      refine bodyPost_ret (results_row3 Tryz.results9 _ _ w.heap.size _ rfl (hres8.setRow _) Tryz.underlying47 rfl infoHdS) rfl ?_
      rw [← HX.out]
      obtain ⟨hflV, hbv, hby2, hrow7⟩ := HF.out
      obtain ⟨hres8b, hd8⟩ := HR8.out
      obtain ⟨hgw, hge2, hw1b⟩ := HW.out
      have hw0b := HW0.out
      have hk1 : Kept (fun k => k = g) w7 (w7.setCell ⟨g, 0, none⟩ (.slice ao2 (came.length - (n + n7)) cap2)) := (Kept.refl (fun k => k = g) w7).setCell (.inl rfl) _
      have hk2 : ∀ cs, Kept (fun k => k = w.heap.size) (w7.setCell ⟨g, 0, none⟩ (.slice ao2 (came.length - (n + n7)) cap2)) ((w7.setCell ⟨g, 0, none⟩ (.slice ao2 (came.length - (n + n7)) cap2)).setRow w.heap.size cs) := fun cs => (Kept.refl (fun k => k = w.heap.size) _).setRow (.inl rfl) cs
      refine ⟨⟨_, _, rfl, ?_, ?_, fun k hk => by have := HLI.out k hk; omega⟩, _, ⟨hd8.setRow_other _ (by omega), ?_, ?_⟩, ?_, HIN2.out⟩
      · exact reads2_kept (reads2_kept hflV hk1 (fun k hk e => by have := HLI.out k hk; have : k = g := e; omega)) (hk2 _) (fun k hk e => by have := HLI.out k hk; have : k = w.heap.size := e; omega)
      · exact bytes_kept_row (bytes_kept_row hbv hrow7 (no_bytes3 _ _ _ _ _) hk1) hres8b no_bytes5 (hk2 _)
      · exact bytes_kept (bytes_kept hby2 hk1 (fun k hk e => (HAP.out k (HIN2.out k hk)).1 e)) (hk2 _) (fun k hk e => by have := (HAP.out k (HIN2.out k hk)).2; have : k = w.heap.size := e; omega)
      · exact fun k hk => ⟨(HAP.out k (HIN2.out k hk)).1, by have := (HAP.out k (HIN2.out k hk)).2; simp [World.setRow, World.setCell]; omega⟩
      · exact ((Kept.of_below HBK.out.1).trans hk1 (fun k hk _ => hk)).setRow (.inr (Nat.le_refl _)) _
end Go.Proofs.YtefplhkjcclppaaGreatDoor
/-
  The document's reader of layer 7: Next, Reply.
-/
namespace Go.Proofs.YtefplhkjcclppaaGreatDoor
open Go.RowKit Go.Pantry

theorem doc_query (mt : List UInt8) (g : Nat) (v : Value) (s : Rd) (w : World) (h : DocAt w g v s) (hl : s.came.length ≤ 8192) :
    Calls Tryz.prog 9 #[.pointer (some ⟨g, 0, none⟩), .bool true, strV mt] w fun e w' => DocMsg g v (queryX s) w e w' := by
  by_cases hw : s.wrong = 0
  · cases hk : readL reqL s.came with
    | error k =>
      have he := readL_err (fun _ _ h => reqL_err h) hk
      have h0 : headE s.closed s.came k ≠ 0 := by unfold headE; split <;> (try split) <;> omega
      have hx : queryX s = (.error (headE s.closed s.came k), ⟨s.came, s.closed, tellX (headE s.closed s.came k)⟩) := by
        unfold queryX nextX
        rw [if_neg (by simpa using hw), hk]
      rw [hx]
      exact docNext_bad true mt g v s w h hw hl (by rw [if_pos rfl]; exact hk) (by omega) h0
    | ok p =>
      obtain ⟨hh, n⟩ := p
      exact docNext_q mt g v s w h hw hl hk rfl
  · have hx : queryX s = (.error s.wrong, s) := by
      unfold queryX nextX
      rw [if_pos (by simpa using hw)]
    rw [hx]
    exact docNext_wrong true mt g v s w h hw
theorem doc_resp (mt : List UInt8) (g : Nat) (v : Value) (s : Rd) (w : World) (h : DocAt w g v s) (hl : s.came.length ≤ 8192) :
    Calls Tryz.prog 9 #[.pointer (some ⟨g, 0, none⟩), .bool false, strV mt] w fun e w' => DocMsg g v (respX (mt == [72, 69, 65, 68]) s) w e w' := by
  by_cases hw : s.wrong = 0
  · cases hk : readL resL s.came with
    | error k =>
      have he := readL_err (fun _ _ h => resL_err h) hk
      have h0 : headE s.closed s.came k ≠ 0 := by unfold headE; split <;> (try split) <;> omega
      have hx : respX (mt == [72, 69, 65, 68]) s = (.error (headE s.closed s.came k), ⟨s.came, s.closed, tellX (headE s.closed s.came k)⟩) := by
        unfold respX nextX
        rw [if_neg (by simpa using hw), hk]
      rw [hx]
      exact docNext_bad false mt g v s w h hw hl (by rw [if_neg (by decide)]; exact hk) (by omega) h0
    | ok p =>
      obtain ⟨hh, n⟩ := p
      exact docNext_s mt g v s w h hw hl hk rfl
  · have hx : respX (mt == [72, 69, 65, 68]) s = (.error s.wrong, s) := by
      unfold respX nextX
      rw [if_pos (by simpa using hw)]
    rw [hx]
    exact docNext_wrong false mt g v s w h hw
/-- how many bytes the document's reader at g has -/
def lenDoc (w : World) (g : Nat) : Nat := match w.cell? ⟨g, 0, none⟩ with | some (.slice _ n _) => n | _ => 0
theorem DocAt.len {w : World} {g : Nat} {v : Value} {s : Rd} (h : DocAt w g v s) : lenDoc w g = s.came.length := by
  obtain ⟨ao, c, rfl, _⟩ := bytes_form h.by'
  unfold lenDoc
  rw [h.row.cell 0]
  rfl
set_option maxRecDepth 100000 in
set_option maxHeartbeats 8000000 in
theorem doc_reply (g : Nat) (v : Value) (s : Rd) (mt : List UInt8) (w : World) (hr : DocAt w g v s) (hl : s.came.length ≤ 8192) :
    Calls Tryz.prog 13 #[.pointer (some ⟨g, 0, none⟩), strV mt] w fun e w' => DocMsg g v (replyX (mt == [72, 69, 65, 68]) (s.came.length + 1) s) w e w' := by
  obtain ⟨R, hR⟩ : ∃ R, replyX (mt == [72, 69, 65, 68]) (s.came.length + 1) s = R := ⟨_, rfl⟩
  rw [hR]
  obtain ⟨W0, hW0⟩ : ∃ W, W = w.alloc (.cells #[.string ⟨#[]⟩, .string ⟨#[]⟩, .int .i64 0, .int .i64 0, .slice none 0 0] 47) := ⟨_, rfl⟩
  have hb0 : Below w.heap.size w W0 := by rw [hW0]; exact below_alloc _ _
  have hres : rowIs W0 w.heap.size #[.string ⟨#[]⟩, .string ⟨#[]⟩, .int .i64 0, .int .i64 0, .slice none 0 0] 47 := by rw [hW0]; exact rowIs_new _ _ _
  have hgl := hr.row.lt
  have hap := hr.apart
  have HI : Hid (∃ v' s' k, DocAt W0 g v' s' ∧ Kept (fun k => k = g) w W0 ∧ In (fun k => v.ownBlock = some k) v' ∧ rowIs W0 w.heap.size #[.string ⟨#[]⟩, .string ⟨#[]⟩, .int .i64 0, .int .i64 0, .slice none 0 0] 47 ∧ s'.came.length < k ∧ replyX (mt == [72, 69, 65, 68]) k s' = R ∧ s'.came.length ≤ 8192) :=
    ⟨v, s, _, hr.below hb0, Kept.of_below hb0, fun k hk => hk, hres, by omega, hR, hl⟩
  have HG := hid (And.intro hgl hap)
  clear hb0 hres hR hl hr hgl hap
  go_enter Tryz.func13, Tryz.ntmps13
  go_wp2_with fail
  rw [← hW0]
  clear hW0
  go_loopw [] (fun wr => ∃ v' s' k, DocAt wr g v' s' ∧ Kept (fun k => k = g) w wr ∧ In (fun k => v.ownBlock = some k) v' ∧ rowIs wr w.heap.size #[.string ⟨#[]⟩, .string ⟨#[]⟩, .int .i64 0, .int .i64 0, .slice none 0 0] 47 ∧ s'.came.length < k ∧ replyX (mt == [72, 69, 65, 68]) k s' = R ∧ s'.came.length ≤ 8192) (fun wr => lenDoc wr g)
  case atStart => exact HI.out
  case round =>
    clear HI
    obtain ⟨v', s', k, hrd, hkp, hin, hres, hk, hR, hl⟩ := hrel
    have hgw := HG.out.1
    have hne : ¬ w.heap.size = g := by omega
    obtain ⟨k, rfl⟩ : ∃ j, k = j + 1 := ⟨k - 1, by omega⟩
    rw [replyX] at hR
    have c1 := doc_resp mt g v' s' wr hrd hl
    have hlen := hrd.len
    have hc1 : ∀ y t, respX (mt == [72, 69, 65, 68]) s' = (.ok y, t) → t.came.length < s'.came.length := fun y t h => (nextX_ok h).1
    generalize respX (mt == [72, 69, 65, 68]) s' = X at *
    obtain ⟨y, s2⟩ := X
    have C1 := hid c1
    have HR := hid hR
    have HC := hid hc1
    have HIN := hid hin
    have hws : w.heap.size < wr.heap.size := hres.lt
    clear c1 hR hc1 hin hrd
    go_wp2_with fail
    refine C1.out.mono ?_
    rintro e w1 ⟨hx, v2, hrd1, hk1, hin2⟩
    have hres1 := hres.kept hk1 hne
    have hkA := hkp.trans hk1 (fun b hb _ => hb)
    have hinA : In (fun k => v.ownBlock = some k) v2 := fun b hb => HIN.out b (hin2 b hb)
    have hvR : In (fun k => k ≠ w.heap.size) v2 := fun b hb => by have := (HG.out.2 b (hinA b hb)).2; omega
    have hs1 : wr.heap.size ≤ w1.heap.size := hk1.size
    clear C1 hres hkp hk1 hin2
    cases y with
    | error k =>
      obtain ⟨hk0, rfl⟩ := hx
      obtain ⟨W2, hW2⟩ : ∃ W, W = w1.alloc (.cells #[.string ⟨#[]⟩, .string ⟨#[]⟩, .int .i64 0, .int .i64 0, .slice none 0 0] 47) := ⟨_, rfl⟩
      have hb2 : Below w1.heap.size w1 W2 := by rw [hW2]; exact below_alloc _ _
      have hres2 := hres1.below hb2
      have hrd2 := hrd1.below hb2
      have hkB := hkA.then hb2
      rw [hW2] at hres2 hrd2 hkB
      have hc0 : ((k : Int) != 0) = true := by simp; omega
      have HF := hid (And.intro hres2 (And.intro hrd2 hkB))
      have HK := hid (And.intro hk0 (And.intro hinA hvR))
      clear hres1 hrd1 hkA hb2 hW2 hres2 hrd2 hkB hk0 hinA hvR
      go_wp2_with (refine wpList_store_row rfl 47 _ _ rfl w.heap.size #[.string ⟨#[]⟩, .string ⟨#[]⟩, .int .i64 0, .int .i64 0, .slice none 0 0] rfl rfl 47 #[.string ⟨#[]⟩, .string ⟨#[]⟩, .int .i64 0, .int .i64 0, .slice none 0 0] HF.out.1 infoHdS rfl (one5 [] [] 0 0 none 0 0) ?_)
      refine bodyPost_ret (results_row3 Tryz.results13 _ _ w.heap.size _ rfl (HF.out.1.setRow _) Tryz.underlying47 rfl infoHdS) rfl ?_
      rw [← HR.out]
      exact ⟨⟨HK.out.1, rfl⟩, v2, HF.out.2.1.setRow (by omega) HK.out.2.2 _, HF.out.2.2.setRow (.inr (Nat.le_refl _)) _, HK.out.2.1⟩
    | ok p =>
      obtain ⟨h, b⟩ := p
      obtain ⟨vl, vb, rfl, hol, hob, hinl⟩ := hx
      obtain ⟨aol, cl, rfl⟩ := hol.form
      obtain ⟨W2, hW2⟩ : ∃ W, W = w1.alloc (.cells #[strV h.first, strV h.second, .int .i64 (h.status : Int), .int .i64 (h.minor : Int), .slice aol h.flds.length cl] 47) := ⟨_, rfl⟩
      have hb2 : Below w1.heap.size w1 W2 := by rw [hW2]; exact below_alloc _ _
      have hres2 := hres1.below hb2
      have hrd2 := hrd1.below hb2
      have hkB := hkA.then hb2
      have hol2 := hol.below hb2
      have hob2 := bytes_below hob hb2
      rw [hW2] at hres2 hrd2 hkB hol2 hob2
      have HF := hid (And.intro hres2 (And.intro hrd2 (And.intro hkB (And.intro hol2 hob2))))
      have HK := hid (And.intro hinA (And.intro hvR hinl))
      clear hres1 hrd1 hkA hb2 hW2 hres2 hrd2 hkB hinA hol hob hol2 hob2 hvR hinl
      by_cases hst : h.status < 200
      · have hz : ¬ (200 : Int) ≤ (h.status : Int) := by omega
        have hR := HR.out
        simp only at hR
        rw [if_pos hst] at hR
        have hcl := HC.out _ _ rfl
        have HZ := hid (And.intro hR hcl)
        clear hR hcl hst HR HC
        go_wp2_with fail
        go_roundw
        case rel => exact ⟨v2, s2, k, HF.out.2.1, HF.out.2.2.1, HK.out.1, HF.out.1, by have := HZ.out.2; omega, HZ.out.1, by have := HZ.out.2; omega⟩
        case measure =>
          rw [HF.out.2.1.len, hlen]
          exact HZ.out.2
      · have hz : (200 : Int) ≤ (h.status : Int) := by omega
        have hR := HR.out
        simp only at hR
        rw [if_neg hst] at hR
        have HZ := hid hR
        clear hR hst HR HC
        go_wp2_with (refine wpList_store_row rfl 47 _ _ rfl w.heap.size #[strV h.first, strV h.second, .int .i64 (h.status : Int), .int .i64 (h.minor : Int), .slice aol h.flds.length cl] rfl rfl 47 #[.string ⟨#[]⟩, .string ⟨#[]⟩, .int .i64 0, .int .i64 0, .slice none 0 0] HF.out.1 infoHdS rfl (one5 _ _ _ _ _ _ _) ?_)
        refine bodyPost_ret (results_row3 Tryz.results13 _ _ w.heap.size _ rfl (HF.out.1.setRow _) Tryz.underlying47 rfl infoHdS) rfl ?_
        rw [← HZ.out]
        obtain ⟨hres2, hrd2, hkB, hol2, hob2⟩ := HF.out
        obtain ⟨hinA, hvR, hinl⟩ := HK.out
        refine ⟨⟨_, _, rfl, ?_, ?_, hinl.mono fun k hk => by omega⟩, v2, hrd2.setRow (by omega) hvR _, hkB.setRow (.inr (Nat.le_refl _)) _, hinA⟩
        · exact reads2_kept hol2 ((Kept.refl (fun k => k = w.heap.size) _).setRow (.inl rfl) _) (hinl.mono fun k hk e => by omega)
        · exact bytes_kept_row hob2 hres2 no_bytes5 ((Kept.refl (fun k => k = w.heap.size) _).setRow (.inl rfl) _)
end Go.Proofs.YtefplhkjcclppaaGreatDoor
