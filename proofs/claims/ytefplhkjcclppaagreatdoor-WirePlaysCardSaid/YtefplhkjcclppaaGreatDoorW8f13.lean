/-
  Several texts in one: Ref7R, Ref7T, Ref6C, Ref6D, Ref6E.
-/
import Derived.Test.YtefplhkjcclppaaGreatDoorW8f02
import Derived.Test.YtefplhkjcclppaaGreatDoorPureWire
import Derived.IntWalk
import Derived.Test.YtefplhkjcclppaaGreatDoorPureAll2
/-
  The document's reader of layer 7: fail.
-/
namespace Go.Proofs.YtefplhkjcclppaaGreatDoor
open Go.RowKit Go.Pantry

/-- the document's reader: its box, and the bytes that it reads -/
structure DocAt (w : World) (g : Nat) (v : Value) (s : Rd) : Prop where
  row : rowIs w g #[v, .bool s.closed, .int .i64 (s.wrong : Int)] 29
  by' : Bytes w v s.came
  apart : In (fun k => k ≠ g ∧ k < w.heap.size) v
theorem DocAt.kept {w w' : World} {g : Nat} {v : Value} {s : Rd} (h : DocAt w g v s) {X : Nat → Prop} (hk : Kept X w w') (hg : ¬ X g) (hv : In (fun k => ¬ X k) v) : DocAt w' g v s :=
  ⟨h.row.kept hk hg, bytes_kept h.by' hk hv, h.apart.mono fun k hk2 => ⟨hk2.1, by have := hk.size; omega⟩⟩
theorem DocAt.below {w w' : World} {g : Nat} {v : Value} {s : Rd} (h : DocAt w g v s) (hb : Below w.heap.size w w') : DocAt w' g v s := h.kept (Kept.of_below (X := fun _ => False) hb) (fun h => h) (fun _ _ h => h)
/-- what 'fail' leaves -/
def DocFail (g : Nat) (v : Value) (s : Rd) (e0 : Nat) (w : World) (e : Ending) (w' : World) : Prop :=
  e = .returned (.int .i64 (headE s.closed s.came e0 : Int)) ∧ DocAt w' g v ⟨s.came, s.closed, tellX (headE s.closed s.came e0)⟩ ∧ Kept (fun k => k = g) w w'
set_option maxRecDepth 100000 in
theorem docFail_any (g : Nat) (v : Value) (s : Rd) (e0 : Nat) (w : World) (h : DocAt w g v s) (hw : s.wrong = 0) (he : e0 ≠ 43) :
    Calls Tryz.prog 21 #[.pointer (some ⟨g, 0, none⟩), .int .i64 (e0 : Int)] w fun e w' => DocFail g v s e0 w e w' := by
  obtain ⟨came, closed, wrong⟩ := s
  simp only at hw
  subst hw
  obtain ⟨ao, cap, rfl, hcap⟩ := bytes_form h.by'
  have g0 := h.row.cell 0
  have g1 := h.row.cell 1
  have g2 := h.row.cell 2
  have f2 := h.row.free 2
  have H := hid h
  by_cases h20 : e0 = 20
  · subst h20
    cases closed with
    | false =>
      have HP : Hid (DocFail g (.slice ao came.length cap) ⟨came, false, 0⟩ 20 w (.returned (.int .i64 20)) w) := hid ⟨rfl, h, Kept.refl _ _⟩
      clear h hcap
      go_enter Tryz.func21, Tryz.ntmps21
      go_wp2_with fail
      go_ret
      exact HP.out
    | true =>
      by_cases hc : came = []
      · subst hc
        have HP : Hid (DocFail g (.slice ao 0 cap) ⟨[], true, 0⟩ 20 w (.returned (.int .i64 43)) w) := hid ⟨rfl, h, Kept.refl _ _⟩
        simp only [List.length_nil] at *
        clear h hcap
        go_enter Tryz.func21, Tryz.ntmps21
        go_wp2_with fail
        go_ret
        exact HP.out
      · have hl : 0 < came.length := List.length_pos_iff.2 hc
        have hz : ((came.length : Int) == 0) = false := by simp; omega
        have hh : headE true came 20 = 21 := by unfold headE; simp [hc]
        have HP : Hid (DocFail g (.slice ao came.length cap) ⟨came, true, 0⟩ 20 w (.returned (.int .i64 21)) (w.setCell ⟨g, 2, none⟩ (.int .i64 21))) := hid ⟨by simp only [hh]; rfl, by
          simp only [hh]
          exact ⟨h.row.setCell 2 _, bytes_kept h.by' ((Kept.refl (fun k => k = g) w).setCell (.inl rfl) _) (h.apart.mono fun k hk => hk.1), h.apart.mono fun k hk => ⟨hk.1, by simpa using hk.2⟩⟩, (Kept.refl (fun k => k = g) w).setCell (.inl rfl) _⟩
        clear h hcap hh hc
        go_enter Tryz.func21, Tryz.ntmps21
        go_wp2_with fail
        go_ret
        exact HP.out
  · have hz : ((e0 : Int) == 20) = false := by simp; omega
    have hh : headE closed came e0 = e0 := by unfold headE; simp [h20]
    have ht : tellX e0 = e0 := by unfold tellX; rw [if_neg (by omega)]
    have HP : Hid (DocFail g (.slice ao came.length cap) ⟨came, closed, 0⟩ e0 w (.returned (.int .i64 (e0 : Int))) (w.setCell ⟨g, 2, none⟩ (.int .i64 (e0 : Int)))) := hid ⟨by simp only [hh], by
      simp only [hh, ht]
      exact ⟨h.row.setCell 2 _, bytes_kept h.by' ((Kept.refl (fun k => k = g) w).setCell (.inl rfl) _) (h.apart.mono fun k hk => hk.1), h.apart.mono fun k hk => ⟨hk.1, by simpa using hk.2⟩⟩, (Kept.refl (fun k => k = g) w).setCell (.inl rfl) _⟩
    clear h hcap hh ht
    go_enter Tryz.func21, Tryz.ntmps21
    go_wp2_with fail
    go_ret
    exact HP.out
end Go.Proofs.YtefplhkjcclppaaGreatDoor
/-
  The document's reader of layer 7: Feed.
-/
namespace Go.Proofs.YtefplhkjcclppaaGreatDoor
open Go.RowKit Go.Pantry

theorem two_kept {w w6 w7 : World} {v6 : Value} {t : TypeId} (hg6 : (w.alloc (.cells #[] t)).grownBy w6 (Value.slice (some ⟨w.heap.size, 0, none⟩) 0 0).ownBlock)
    (hi6 : In (fun k => (Value.slice (some ⟨w.heap.size, 0, none⟩) 0 0).ownBlock = some k ∨ (w.alloc (.cells #[] t)).heap.size ≤ k) v6) (hg7 : w6.grownBy w7 v6.ownBlock) : Kept (fun _ => False) w w7 ∧ ∀ k, v6.ownBlock = some k → w.heap.size ≤ k := by
  have hs : (w.alloc (.cells #[] t)).heap.size = w.heap.size + 1 := by simp
  have h6 : ∀ k, v6.ownBlock = some k → w.heap.size ≤ k := fun k hk => by
    rcases hi6 k hk with h | h
    · cases h; exact Nat.le_refl _
    · omega
  exact ⟨(((Kept.refl (fun _ => False) w).alloc (.cells #[] t)).grown hg6 (fun k hk h => (by have e : k = w.heap.size := (by cases hk; rfl); omega))).grown hg7 (fun k hk h => by have := h6 k hk; omega), h6⟩
theorem one_kept {w w6 : World} {t : TypeId} (hg6 : (w.alloc (.cells #[] t)).grownBy w6 (Value.slice (some ⟨w.heap.size, 0, none⟩) 0 0).ownBlock) : Kept (fun _ => False) w w6 :=
  ((Kept.refl (fun _ => False) w).alloc (.cells #[] t)).grown hg6 (fun k hk h => (by have e : k = w.heap.size := (by cases hk; rfl); omega))
/-- what Feed leaves -/
def DocFed (g : Nat) (v : Value) (x : Nat × Rd) (w : World) (e : Ending) (w' : World) : Prop :=
  ∃ v', e = .returned (.int .i64 (x.1 : Int)) ∧ DocAt w' g v' x.2 ∧ Kept (fun k => k = g) w w' ∧ In (fun k => v.ownBlock = some k ∨ w.heap.size ≤ k) v'
set_option maxRecDepth 100000 in
set_option maxHeartbeats 4000000 in
theorem docFeed_any (g : Nat) (v : Value) (s : Rd) (vb : Value) (b : List UInt8) (w : World) (h : DocAt w g v s) (hb : Reads w vb (b.map byteV)) (hl : s.came.length ≤ 8192) (hbl : b.length ≤ 9223372036854775807) :
    Calls Tryz.prog 7 #[.pointer (some ⟨g, 0, none⟩), vb] w fun e w' => DocFed g v (feedX s b) w e w' := by
  obtain ⟨came, closed, wrong⟩ := s
  obtain ⟨ao, cap, rfl, hcap⟩ := bytes_form h.by'
  obtain ⟨aob, capb, rfl⟩ := hb.form
  rw [List.length_map] at *
  have g0 := h.row.cell 0
  have g1 := h.row.cell 1
  have g2 := h.row.cell 2
  simp only at hl
  by_cases hs : closed = true ∨ wrong ≠ 0
  · have hx : feedX ⟨came, closed, wrong⟩ b = (13, ⟨came, closed, wrong⟩) := by unfold feedX; rw [if_pos hs]
    rw [hx]
    have HP : Hid (DocFed g (.slice ao came.length cap) (13, ⟨came, closed, wrong⟩) w (.returned (.int .i64 13)) w) := hid ⟨_, rfl, h, Kept.refl _ _, fun k hk => .inl hk⟩
    clear h hb hcap hx hbl
    cases closed with
    | true =>
      clear hs
      go_enter Tryz.func7, Tryz.ntmps7
      go_wp2_with fail
      go_ret
      exact HP.out
    | false =>
      have hz : ((wrong : Int) != 0) = true := by
        rcases hs with hs | hs
        · cases hs
        · simp; omega
      clear hs
      go_enter Tryz.func7, Tryz.ntmps7
      go_wp2_with fail
      go_ret
      exact HP.out
  · have hcl : closed = false := by cases closed <;> simp_all
    have hwr : wrong = 0 := by cases wrong <;> simp_all
    subst hcl hwr
    have hw1 : IntKind.i64.wrap (8192 - (came.length : Int)) = ((8192 - came.length : Nat) : Int) := by rw [IntWalk.i64_in _ (by omega)]; omega
    by_cases hbig : 8192 - came.length < b.length
    · have hx : feedX ⟨came, false, 0⟩ b = (23, ⟨came, false, 0⟩) := by unfold feedX; rw [if_neg hs, if_pos hbig]
      rw [hx]
      have hz : ((8192 - came.length : Nat) : Int) < (b.length : Int) := by omega
      have HP : Hid (DocFed g (.slice ao came.length cap) (23, ⟨came, false, 0⟩) w (.returned (.int .i64 23)) w) := hid ⟨_, rfl, h, Kept.refl _ _, fun k hk => .inl hk⟩
      clear h hb hcap hx hbl hs
      go_enter Tryz.func7, Tryz.ntmps7
      go_wp2_with fail
      go_ret
      exact HP.out
    · have hx : feedX ⟨came, false, 0⟩ b = (0, ⟨came ++ b, false, 0⟩) := by unfold feedX; rw [if_neg hs, if_neg hbig]
      rw [hx]
      have hz : ¬ ((8192 - came.length : Nat) : Int) < (b.length : Int) := by omega
      have ho4 : (w.alloc (.cells #[] 5)).ownsRow 0 5 1 (.slice (some ⟨w.heap.size, 0, none⟩) 0 0) 0 [] := World.ownsRow_made w #[] 0 (Nat.zero_le _) (by simp) (by simp)
      have hbA : Below w.heap.size w (w.alloc (.cells #[] 5)) := below_alloc _ _
      have hs5 := (bytesRead h.by').below hbA
      have hn5 : 0 + (came.map byteV).length < 4294967296 := by rw [List.length_map]; omega
      have hn6 : 0 + (came.map byteV).length + (b.map byteV).length < 4294967296 := by simp only [List.length_map]; omega
      have gA0 := (h.below hbA).row.cell 0
      have HO4 := hid ho4
      have HS5 := hid hs5
      have HN5 := hid hn5
      have HN6 := hid hn6
      have HD := hid h
      have HBB := hid hb
      have HLB := hid hbig
      clear h hb hcap hx hbl hs ho4 hs5 hn5 hn6 hbA hbig
      go_enter Tryz.func7, Tryz.ntmps7
      go_wp2_with (at_builtin; refine wpList_unguard rfl ?_; first | (refine wpList_append_more _ rfl _ _ 27 rfl 0 5 Tryz.underlying27 infoU8 rfl (by decide) rfl HO4.out HS5.out (oneCell_bytes _) rfl HN5.out (Nat.zero_le _) ?_; intro v6 w6 ho6 hg6 hi6; have hs6 := reads_kept HBB.out (one_kept hg6) (fun _ _ h => h); have HO6 := hid ho6; have HS6 := hid hs6; have HG6 := hid (And.intro hg6 hi6); clear ho6 hg6 hi6 hs6) | (refine wpList_append_more _ rfl _ _ 27 rfl 0 5 Tryz.underlying27 infoU8 rfl (by decide) rfl HO6.out HS6.out (oneCell_bytes _) rfl HN6.out (Nat.zero_le _) ?_; intro v7 w7 ho7 hg7 hi7; simp only [List.length_map, List.length_nil, Nat.zero_add, List.nil_append, ← List.map_append] at ho7; obtain ⟨ao7, c7, rfl⟩ := ownsRow_bytes_form ho7; have hk7 := (two_kept HG6.out.1 HG6.out.2 hg7).1; have hr7 := HD.out.row.kept hk7 (fun h => h); have g7 := hr7.cell 0; have f7 := hr7.free 0; have HX7 := hid (And.intro ho7 (And.intro hk7 (And.intro hi7 hr7))); clear ho7 hg7 hi7 hk7 hr7))
      go_ret
      obtain ⟨ho7, hk7, hi7, hr7⟩ := HX7.out
      have hin : ∀ k, (Value.slice ao7 (came.length + b.length) c7).ownBlock = some k → w.heap.size ≤ k := fun k hk => by
        have h6 := (two_kept (w7 := w6) HG6.out.1 HG6.out.2 ⟨rfl, rfl, rfl, Nat.le_refl _, fun _ _ _ => rfl⟩).2
        rcases hi7 k hk with h | h
        · exact h6 k h
        · have := HG6.out.1.size
          have hs : (w.alloc (.cells #[] 5)).heap.size = w.heap.size + 1 := by simp
          omega
      have hgl := HD.out.row.lt
      have hne : ∀ k, (Value.slice ao7 (came.length + b.length) c7).ownBlock = some k → k ≠ g := fun k hk e => by have := hin k hk; omega
      have hkS : Kept (fun k => k = g) w7 (w7.setCell ⟨g, 0, none⟩ (.slice ao7 (came.length + b.length) c7)) := (Kept.refl (fun k => k = g) w7).setCell (.inl rfl) _
      refine ⟨_, rfl, ⟨hr7.setCell 0 _, bytes_kept (ownsRow_bytes ho7) hkS (fun k hk => hne k hk), fun k hk => ⟨hne k hk, by have := (ho7.lt k hk).2; simpa using this⟩⟩, (hk7.mono (Y := fun k => k = g) fun _ h => h.elim).setCell (.inl rfl) _, fun k hk => .inr (hin k hk)⟩
end Go.Proofs.YtefplhkjcclppaaGreatDoor
/-
  The document's answers of layer 6: a digit's value; the end of a line.
-/
namespace Go.Proofs.YtefplhkjcclppaaGreatDoor
open Go.RowKit Go.Pantry

def smallS : ByteArray := ⟨#[48, 49, 50, 51, 52, 53, 54, 55, 56, 57, 97, 98, 99, 100, 101, 102]⟩
def bigS : ByteArray := ⟨#[48, 49, 50, 51, 52, 53, 54, 55, 56, 57, 65, 66, 67, 68, 69, 70]⟩
def smD (k : Nat) : UInt8 := if k < 10 then UInt8.ofNat (48 + k) else UInt8.ofNat (87 + k)
def bgD (k : Nat) : UInt8 := if k < 10 then UInt8.ofNat (48 + k) else UInt8.ofNat (55 + k)
theorem smallS_index : ∀ d : Nat, d < 16 → smallS.data.toList[d]? = some (smD d) := by decide
theorem bigS_index : ∀ d : Nat, d < 16 → bigS.data.toList[d]? = some (bgD d) := by decide
theorem smallS_at (d : Nat) (h : d < 16) (h' : d < smallS.size) : smallS[d]'h' = smD d := by
  have e := smallS_index d h
  obtain ⟨_, e2⟩ := List.getElem?_eq_some_iff.1 e
  exact e2
theorem bigS_at (d : Nat) (h : d < 16) (h' : d < bigS.size) : bigS[d]'h' = bgD d := by
  have e := bigS_index d h
  obtain ⟨_, e2⟩ := List.getElem?_eq_some_iff.1 e
  exact e2
theorem val_all : ∀ n : Nat, n < 256 → ∀ k : Nat, k < 16 → (decide (smD k = UInt8.ofNat n ∨ bgD k = UInt8.ofNat n) = decide (hexV (UInt8.ofNat n) = some k)) := by decide +kernel
theorem val_hit (c : UInt8) (k : Nat) (hk : k < 16) : (smD k = c ∨ bgD k = c) ↔ hexV c = some k := by
  have h := val_all c.toNat c.toNat_lt k hk
  rw [UInt8.ofNat_toNat] at h
  constructor
  · intro h1
    rw [decide_eq_true h1] at h
    exact of_decide_eq_true h.symm
  · intro h1
    rw [decide_eq_true h1] at h
    exact of_decide_eq_true h
def valZ (c : UInt8) : Int := match hexV c with | some v => (v : Int) | none => -1
theorem refValue_any (c : UInt8) (w : World) :
    Calls Tryz.prog 117 #[.int .u8 (c.toNat : Int)] w fun e w' => e = .returned (.int .i64 (valZ c)) ∧ w = w' := by
  obtain ⟨cn, hcn⟩ : ∃ n, c.toNat = n := ⟨_, rfl⟩
  rw [hcn]
  go_enter Tryz.func117, Tryz.ntmps117
  go_wp2_with fail
  go_loopw [3] (fun i wr => ∃ k : Nat, k ≤ 16 ∧ i = .int .i64 (k : Int) ∧ (∀ j, j < k → hexV c ≠ some j) ∧ w = wr) (fun i _ => 16 - (intOf i).toNat)
  case atStart => exact ⟨0, by omega, rfl, fun j hj => by omega, rfl⟩
  case round =>
    obtain ⟨k, hk, rfl, hno, rfl⟩ := hrel
    by_cases h16 : k < 16
    · have hz : (k : Int) < 16 := by omega
      have h1 := fun h' => smallS_at k h16 h'
      have h2 := fun h' => bigS_at k h16 h'
      unfold smallS at h1
      unfold bigS at h2
      have hh := val_hit c k h16
      have hwk : IntKind.i64.wrap ((k : Int) + 1) = ((k + 1 : Nat) : Int) := by rw [IntWalk.i64_in _ (by omega)]; simp
      generalize smD k = s at *
      generalize bgD k = b at *
      by_cases hs : s = c
      · have e1 : ((s.toNat : Int) == (cn : Int)) = true := by rw [hs, hcn]; simp
        have hv : valZ c = (k : Int) := by unfold valZ; rw [hh.1 (.inl hs)]
        have HV := hid hv
        clear hh hno hs hcn hv
        go_wp2_with fail
        go_ret
        exact ⟨by rw [HV.out]; rfl, rfl⟩
      · have e1 : ((s.toNat : Int) == (cn : Int)) = false := by
          simp only [beq_eq_false_iff_ne, ne_eq]
          intro e
          exact hs (UInt8.toNat_inj.1 (by omega))
        by_cases hb : b = c
        · have e2 : ((b.toNat : Int) == (cn : Int)) = true := by rw [hb, hcn]; simp
          have hv : valZ c = (k : Int) := by unfold valZ; rw [hh.1 (.inr hb)]
          have HV := hid hv
          clear hh hno hs hb hcn hv
          go_wp2_with fail
          go_ret
          exact ⟨by rw [HV.out]; rfl, rfl⟩
        · have e2 : ((b.toNat : Int) == (cn : Int)) = false := by
            simp only [beq_eq_false_iff_ne, ne_eq]
            intro e
            exact hb (UInt8.toNat_inj.1 (by omega))
          have HN := hid (show ∀ j, j < k + 1 → hexV c ≠ some j from fun j hj e => by
            by_cases hjk : j < k
            · exact hno j hjk e
            · have : j = k := by omega
              subst this
              rcases hh.2 e with h | h
              · exact hs h
              · exact hb h)
          clear hh hno hs hb hcn
          go_wp2_with fail
          go_roundw
          case rel => exact ⟨k + 1, by omega, by simp, HN.out, trivial⟩
          case measure => simp only [intOf]; omega
    · have hke : k = 16 := by omega
      subst hke
      have hv : valZ c = -1 := by
        unfold valZ
        cases hx : hexV c with
        | none => rfl
        | some v => exact absurd hx (hno v (by have := hexV_le hx; omega))
      have HV := hid hv
      clear hno hv h16 hk hcn
      go_wp2_with fail
      go_ret
      exact ⟨by rw [HV.out]; rfl, rfl⟩
theorem drop_at {l : List UInt8} {a : Nat} (h : a < l.length) : l.drop a = l[a] :: l.drop (a + 1) := List.drop_eq_getElem_cons h
theorem bytes_cell {w : World} {ao : Option Addr} {cap : Nat} {l : List UInt8} (h : Reads w (.slice ao l.length cap) (l.map byteV)) {k : Nat} (hk : k < l.length) : ∃ b off, ao = some ⟨b, off, none⟩ ∧ ∀ j c, l[j]? = some c → w.cell? ⟨b, off + j, none⟩ = some (byteV c) := by
  obtain ⟨ao', cap', hv, hc, hz⟩ := h
  injection hv with h1 h2 h3
  subst h1
  obtain ⟨b, off, he, _⟩ := hc k (byteV l[k]) (by rw [List.getElem?_map, List.getElem?_eq_getElem hk]; rfl)
  subst he
  refine ⟨b, off, rfl, fun j c hj => ?_⟩
  obtain ⟨b', off', he, hcell⟩ := hc j (byteV c) (by rw [List.getElem?_map, hj]; rfl)
  cases he
  exact hcell
theorem refLine_any (v : Value) (l : List UInt8) (a : Nat) (w : World) (hr : Reads w v (l.map byteV)) (ha : a ≤ 1000000000) (hl : l.length ≤ 1000000000) :
    Calls Tryz.prog 98 #[v, .int .i64 (a : Int)] w fun e w' => e = .returned (.int .i64 (lineE 20 (l.drop a) : Int)) ∧ w = w' := by
  obtain ⟨ao, cap, rfl⟩ := hr.form
  rw [List.length_map] at *
  have hw1 : IntKind.i64.wrap ((a : Int) + 1) = ((a + 1 : Nat) : Int) := by rw [IntWalk.i64_in _ (by omega)]; simp
  by_cases h1 : a < l.length
  · obtain ⟨b, off, rfl, hcs⟩ := bytes_cell hr h1
    have hc1 := hcs a l[a] (List.getElem?_eq_getElem h1)
    have hd1 := drop_at h1
    have hz1 : ¬ (l.length : Int) ≤ (a : Int) := by omega
    by_cases h13 : l[a] = 13
    · have e13 : ((l[a].toNat : Int) != 13) = false := by rw [h13]; decide
      by_cases h2 : a + 1 < l.length
      · have hc2 := hcs (a + 1) l[a + 1] (List.getElem?_eq_getElem h2)
        have hd2 := drop_at h2
        have hz2 : ¬ (l.length : Int) ≤ ((a + 1 : Nat) : Int) := by omega
        rw [hd1, hd2, lineE_two, h13]
        by_cases h10 : l[a + 1] = 10
        · have e10 : ((l[a + 1].toNat : Int) != 10) = false := by rw [h10]; decide
          rw [if_pos ⟨rfl, h10⟩]
          generalize l[a] = c at *
          generalize l[a + 1] = d at *
          clear hr hcs hd1 hd2 h13 h10
          go_enter Tryz.func98, Tryz.ntmps98
          go_wp2_with fail
          go_ret
          exact ⟨rfl, rfl⟩
        · have e10 : ((l[a + 1].toNat : Int) != 10) = true := by
            simp only [bne_iff_ne, ne_eq]
            intro e
            exact h10 (UInt8.toNat_inj.1 (by show l[a + 1].toNat = 10; omega))
          rw [if_neg (fun h => h10 h.2)]
          generalize l[a] = c at *
          generalize l[a + 1] = d at *
          clear hr hcs hd1 hd2 h13 h10
          go_enter Tryz.func98, Tryz.ntmps98
          go_wp2_with fail
          go_ret
          exact ⟨rfl, rfl⟩
      · have hd2 : l.drop (a + 1) = [] := List.drop_eq_nil_of_le (by omega)
        have hz2 : (l.length : Int) ≤ ((a + 1 : Nat) : Int) := by omega
        rw [hd1, hd2, lineE_one, if_pos h13]
        generalize l[a] = c at *
        clear hr hcs hd1 hd2 h13
        go_enter Tryz.func98, Tryz.ntmps98
        go_wp2_with fail
        go_ret
        exact ⟨rfl, rfl⟩
    · have e13 : ((l[a].toNat : Int) != 13) = true := by
        simp only [bne_iff_ne, ne_eq]
        intro e
        exact h13 (UInt8.toNat_inj.1 (by show l[a].toNat = 13; omega))
      have hx : lineE 20 (l.drop a) = 21 := by
        rw [hd1]
        cases l.drop (a + 1) with
        | nil => rw [lineE_one, if_neg h13]
        | cons d s => rw [lineE_two, if_neg (fun h => h13 h.1)]
      rw [hx]
      generalize l[a] = c at *
      clear hr hcs hd1 h13 hx
      go_enter Tryz.func98, Tryz.ntmps98
      go_wp2_with fail
      go_ret
      exact ⟨rfl, rfl⟩
  · have hx : lineE 20 (l.drop a) = 20 := by rw [List.drop_eq_nil_of_le (by omega)]; rfl
    have hz1 : (l.length : Int) ≤ (a : Int) := by omega
    rw [hx]
    clear hr hx
    go_enter Tryz.func98, Tryz.ntmps98
    go_wp2_with fail
    go_ret
    exact ⟨rfl, rfl⟩
end Go.Proofs.YtefplhkjcclppaaGreatDoor
/-
  The document's answers of layer 6: a chunk's number, and where its digits end.
-/
namespace Go.Proofs.YtefplhkjcclppaaGreatDoor
open Go.RowKit Go.Pantry

def sizeE (s : List UInt8) : Nat := if numE s ≠ 0 then 21 else lineE 20 (s.drop (hexRun 8 0 s).2)
def SizeP (a : Nat) (s : List UInt8) (e : Ending) : Prop := ∃ n t : Nat, e = .returned (.tuple #[.int .i64 (n : Int), .int .i64 (t : Int), .int .i64 (sizeE s : Int)]) ∧ (sizeE s = 0 → n = (hexRun 8 0 s).1 ∧ t = a + (hexRun 8 0 s).2)
theorem size_post {a : Nat} {s : List UInt8} {n t x : Nat} (hx : sizeE s = x) (hn : (hexRun 8 0 s).1 = n) (ht : a + (hexRun 8 0 s).2 = t) : SizeP a s (.returned (.tuple #[.int .i64 (n : Int), .int .i64 (t : Int), .int .i64 (x : Int)])) := by
  subst hx hn ht
  exact ⟨_, _, rfl, fun _ => ⟨rfl, rfl⟩⟩
theorem size_post21 {a : Nat} {s : List UInt8} (hx : sizeE s = 21) : SizeP a s (.returned (.tuple #[.int .i64 0, .int .i64 0, .int .i64 21])) := by
  exact ⟨0, 0, by rw [hx]; rfl, fun h => by omega⟩
set_option maxHeartbeats 4000000 in
theorem refSize_any (v : Value) (l : List UInt8) (a : Nat) (w : World) (hr : Reads w v (l.map byteV)) (ha : a ≤ 100000000) (hl : l.length ≤ 100000000) :
    Calls Tryz.prog 97 #[v, .int .i64 (a : Int)] w fun e w' => SizeP a (l.drop a) e ∧ w = w' := by
  obtain ⟨ao, cap, rfl⟩ := hr.form
  rw [List.length_map] at *
  have HR := hid hr
  clear hr
  go_enter Tryz.func97, Tryz.ntmps97
  go_wp2_with fail
  go_loopw [1, 7] (fun av nv wr => ∃ k acc : Nat, k ≤ 8 ∧ av = .int .i64 ((a + k : Nat) : Int) ∧ nv = .int .i64 (acc : Int) ∧ acc < 16 ^ k ∧ hexRun 8 0 (l.drop a) = ((hexRun (8 - k) acc (l.drop (a + k))).1, (hexRun (8 - k) acc (l.drop (a + k))).2 + k) ∧ w = wr) (fun av _ _ => a + 9 - (intOf av).toNat)
  case atStart => exact ⟨0, 0, by omega, by simp, rfl, by decide, by simp, rfl⟩
  case round =>
    obtain ⟨k, acc, hk, rfl, rfl, hacc, hrun, rfl⟩ := hrel
    have hacc8 : acc < 4294967296 := Nat.lt_of_lt_of_le hacc (by
      calc 16 ^ k ≤ 16 ^ 8 := Nat.pow_le_pow_right (by decide) hk
        _ = 4294967296 := by decide)
    by_cases hin : a + k < l.length
    · obtain ⟨b, off, rfl, hcs⟩ := bytes_cell HR.out hin
      have hc := hcs (a + k) l[a + k] (List.getElem?_eq_getElem hin)
      have hd := drop_at hin
      have hz : ((a + k : Nat) : Int) < (l.length : Int) := by omega
      have cv := refValue_any l[a + k] w
      cases hv : hexV l[a + k] with
      | none =>
        have hD : hexRun 8 0 (l.drop a) = (acc, k) := by rw [hrun, hd, hexRun_none hv]; simp
        have hval : valZ l[a + k] = -1 := by unfold valZ; rw [hv]
        rw [hval] at cv
        have CV := hid cv
        generalize l[a + k] = c at *
        clear hcs hd hv hval cv hrun
        by_cases h0 : k = 0
        · subst h0
          have hsz : sizeE (l.drop a) = 21 := by
            unfold sizeE numE
            rw [hD]
            have : l.drop a ≠ [] := by
              intro h
              have := congrArg List.length h
              simp only [List.length_drop, List.length_nil] at this
              omega
            simp [this]
          have HP := hid (size_post21 (a := a) hsz)
          have hee : ((a : Int) == (a : Int)) = true := by simp
          simp only [Nat.add_zero] at *
          clear hD hsz
          go_wp2_with fail
          refine CV.out.mono ?_
          rintro e w1 ⟨rfl, rfl⟩
          go_wp2_with fail
          go_ret3
          exact ⟨HP.out, rfl⟩
        · have hee : (((a + k : Nat) : Int) == (a : Int)) = false := by simp; omega
          have cl := refLine_any (.slice (some ⟨b, off, none⟩) l.length cap) l (a + k) w HR.out (by omega) (by omega)
          have hsz : sizeE (l.drop a) = lineE 20 (l.drop (a + k)) := by
            have hn0 : (if k = 0 ∧ l.drop a ≠ [] then 21 else 0) = 0 := if_neg (fun h => h0 h.1)
            unfold sizeE numE
            rw [hD]
            show (if (if k = 0 ∧ l.drop a ≠ [] then 21 else 0) ≠ 0 then 21 else lineE 20 ((l.drop a).drop k)) = _
            rw [hn0, if_neg (by simp), List.drop_drop]
          have HP := hid (size_post (n := acc) (t := a + k) hsz (by rw [hD]) (by rw [hD]))
          have CL := hid cl

          clear hD hsz cl
          go_wp2_with fail
          refine CV.out.mono ?_
          rintro e w1 ⟨rfl, rfl⟩
          go_wp2_with fail
          refine CL.out.mono ?_
          rintro e w1 ⟨rfl, rfl⟩
          go_wp2_with fail
          go_ret3
          exact ⟨HP.out, rfl⟩
      | some x =>
        have hx := hexV_le hv
        have hval : valZ l[a + k] = (x : Int) := by unfold valZ; rw [hv]
        rw [hval] at cv
        have CV := hid cv
        by_cases h8 : k = 8
        · subst h8
          have hD : hexRun 8 0 (l.drop a) = (acc, 8) := by rw [hrun]; rfl
          have hsz : sizeE (l.drop a) = 21 := by
            unfold sizeE numE
            rw [hD]
            simp only [List.drop_drop]
            rw [if_neg (by simp), hd]
            have h13 : l[a + 8] ≠ 13 := fun h => by
              have e : hexV 13 = none := by decide
              rw [h, e] at hv
              cases hv
            cases l.drop (a + 8 + 1) with
            | nil => rw [lineE_one, if_neg h13]
            | cons d s => rw [lineE_two, if_neg (fun h => h13 h.1)]
          have HP := hid (size_post21 (a := a) hsz)
          have hws : IntKind.i64.wrap (((a + 8 : Nat) : Int) - (a : Int)) = 8 := by rw [IntWalk.i64_in _ (by omega)]; omega
          have hge : (0 : Int) ≤ (x : Int) := by omega
          generalize l[a + 8] = c at *
          clear hcs hd hv hval cv hrun hD hsz
          go_wp2_with fail
          refine CV.out.mono ?_
          rintro e w1 ⟨rfl, rfl⟩
          go_wp2_with fail
          go_ret3
          exact ⟨HP.out, rfl⟩
        · have hk8 : k < 8 := by omega
          have hws : IntKind.i64.wrap (((a + k : Nat) : Int) - (a : Int)) = (k : Int) := by rw [IntWalk.i64_in _ (by omega)]; omega
          have hne : ((k : Int) == 8) = false := by simp; omega
          have hw1 : IntKind.i64.wrap (16 * (acc : Int)) = 16 * (acc : Int) := IntWalk.i64_in _ (by omega)
          have hw2 : IntKind.i64.wrap (16 * (acc : Int) + (x : Int)) = ((16 * acc + x : Nat) : Int) := by rw [IntWalk.i64_in _ (by omega)]; simp
          have hw3 : IntKind.i64.wrap (((a + k : Nat) : Int) + 1) = ((a + (k + 1) : Nat) : Int) := by rw [IntWalk.i64_in _ (by omega)]; omega
          have hge : (0 : Int) ≤ (x : Int) := by omega
          have hrun2 : hexRun 8 0 (l.drop a) = ((hexRun (8 - (k + 1)) (16 * acc + x) (l.drop (a + (k + 1)))).1, (hexRun (8 - (k + 1)) (16 * acc + x) (l.drop (a + (k + 1)))).2 + (k + 1)) := by
            rw [hrun, hd, show 8 - k = (8 - (k + 1)) + 1 by omega, hexRun, hv]
            simp only [Nat.add_assoc]
            rw [Nat.add_comm 1 k]
          have hacc2 : 16 * acc + x < 16 ^ (k + 1) := by rw [Nat.pow_succ]; omega
          have HN := hid (And.intro hacc2 hrun2)
          generalize l[a + k] = c at *
          clear hcs hd hv hval cv hrun hrun2 hacc2 hacc
          go_wp2_with fail
          refine CV.out.mono ?_
          rintro e w1 ⟨rfl, rfl⟩
          go_wp2_with fail
          refine CV.out.mono ?_
          rintro e w1 ⟨rfl, rfl⟩
          go_wp2_with fail
          go_roundw
          case rel => exact ⟨k + 1, 16 * acc + x, by omega, rfl, rfl, HN.out.1, HN.out.2, trivial⟩
          case measure => simp only [intOf]; omega
    · have hnil : l.drop (a + k) = [] := List.drop_eq_nil_of_le (by omega)
      have hD : hexRun 8 0 (l.drop a) = (acc, k) := by
        rw [hrun, hnil]
        cases 8 - k <;> simp [hexRun]
      have hz : ¬ ((a + k : Nat) : Int) < (l.length : Int) := by omega
      have hk0 : ¬ (k = 0 ∧ l.drop a ≠ []) := fun h => by
        obtain ⟨rfl, h2⟩ := h
        exact h2 (by rw [Nat.add_zero] at hnil; exact hnil)
      have cl := refLine_any (.slice ao l.length cap) l (a + k) w HR.out (by omega) (by omega)
      have hsz : sizeE (l.drop a) = lineE 20 (l.drop (a + k)) := by
        have hn0 : (if k = 0 ∧ l.drop a ≠ [] then 21 else 0) = 0 := if_neg (hk0)
        unfold sizeE numE
        rw [hD]
        show (if (if k = 0 ∧ l.drop a ≠ [] then 21 else 0) ≠ 0 then 21 else lineE 20 ((l.drop a).drop k)) = _
        rw [hn0, if_neg (by simp), List.drop_drop]
      have HP := hid (size_post (n := acc) (t := a + k) hsz (by rw [hD]) (by rw [hD]))
      have CL := hid cl

      clear hD hsz cl hrun hnil hk0
      by_cases h0 : k = 0
      · subst h0
        have hee : ((a : Int) == (a : Int)) = true := by simp
        simp only [Nat.add_zero] at *
        go_wp2_with fail
        refine CL.out.mono ?_
        rintro e w1 ⟨rfl, rfl⟩
        go_wp2_with fail
        go_ret3
        exact ⟨HP.out, rfl⟩
      · have hee : (((a + k : Nat) : Int) == (a : Int)) = false := by simp; omega
        go_wp2_with fail
        refine CL.out.mono ?_
        rintro e w1 ⟨rfl, rfl⟩
        go_wp2_with fail
        go_ret3
        exact ⟨HP.out, rfl⟩
end Go.Proofs.YtefplhkjcclppaaGreatDoor
/-
  The document's answers of layer 6: the reading of chunks.
-/
namespace Go.Proofs.YtefplhkjcclppaaGreatDoor
open Go.RowKit Go.Pantry

/-- b[a:a+k] -/
theorem bytes_two {P : Program} (t : TypeId) (ht : P.underlying t = some (.slice (P.elem t))) (h1 : ∀ W, (sizeOf (P.elem t)).run P W = .ok 1 W) {w : World} {v : Value} {l : List UInt8} (h : Bytes w v l) (a k : Nat) (hk : a + k ≤ l.length) :
    ∃ ao' cap', (∀ W, (Instr.slice t v (some (.int .i64 (a : Int))) (some (.int .i64 ((a + k : Nat) : Int))) none).run P W = .ok (.slice ao' k cap') W) ∧ Bytes w (.slice ao' k cap') ((l.drop a).take k) := by
  obtain ⟨ao1, cap1, hs1, hb1⟩ := bytes_low (P := P) t ht h1 h a (by omega)
  obtain ⟨ao, cap, rfl, hc, hr⟩ := h
  have hrun := hs1 (default : World)
  rw [run_slice_l _ t ao l.length cap ht .i64 (a : Int) (by omega) (by omega), h1] at hrun
  simp only [Result.andThen, sliced, Int.toNat_natCast] at hrun
  refine ⟨(if cap = a then ao else ao.map (·.add (a * 1))), cap - a, fun W => ?_, ?_⟩
  · rw [run_slice_lh W t ao l.length cap ht .i64 .i64 (a : Int) ((a + k : Nat) : Int) (by omega) (by omega) (by omega), h1]
    simp only [Result.andThen, sliced, Int.toNat_natCast]
    rw [show a + k - a = k by omega]
  · have hv : Value.slice ao1 (l.length - a) cap1 = .slice (if cap = a then ao else ao.map (·.add (a * 1))) (l.length - a) (cap - a) := by
      injection hrun with h _
      exact h.symm
    rw [hv] at hb1
    have hl : ((l.drop a).take k).length = k := by rw [List.length_take, List.length_drop]; omega
    refine ⟨_, _, by rw [hl], by rw [hl]; omega, ?_⟩
    have hh := (bytesRead hb1).take k (by rw [List.length_map, List.length_drop]; omega)
    rw [List.map_take]
    exact hh
/-- x[lo:hi] by an equation of what it gives. -/
theorem wpList_slice_two {P : Program} {ops : Array Oper} {rest : List Oper} {o : Oper} {a : Act} {w : World} {Q : Exit → Act → World → Prop} (hg : o.guard = none) (t : TypeId) (x lo hi : Operand) (ho : o.op = .slice t x (some lo) (some hi) none)
    {vx vo vl vr : Value} (hx : a.eval x = vx) (hlo : a.eval lo = vo) (hl : a.eval hi = vl) (ht : P.underlying t = some (.slice (P.elem t))) (hr : (Instr.slice t vx (some vo) (some vl) none).run P w = .ok vr w)
    (h : wpList P ops Q rest (a.put o.dst vr) w) : wpList P ops Q (o :: rest) a w :=
  wpList_plain hg fun _ hK => by
    unfold Oper.wp execOp
    simp only [ho, hx, hlo, hl, Option.map_some, Option.map_none, Sem.run_bind, run_sliceAt_slice w t vx (some vo) (some vl) none ht, hr, Sem.run_pure, Result.andThen_ok]
    exact hK _ _ h
theorem lineE_room {s : List UInt8} (h : lineE 20 s = 0) : 2 ≤ s.length := by
  obtain ⟨t, rfl⟩ := lineE_ok (by decide) h
  simp
theorem sizeE_room {s : List UInt8} (h : sizeE s = 0) : (hexRun 8 0 s).2 + 2 ≤ s.length := by
  unfold sizeE at h
  split at h
  · cases h
  · have := lineE_room h
    rw [List.length_drop] at this
    omega
/-- a chunk, at a place of the bytes -/
theorem chunkL_at {m a : Nat} {l : List UInt8} (hE : sizeE (l.drop a) = 0) {n p : Nat} (hn : n = (hexRun 8 0 (l.drop a)).1) (hp : p = a + (hexRun 8 0 (l.drop a)).2 + 2) :
    chunkL 20 m (l.drop a) = if m < n then .error 23 else if l.length - p < n then .error 20 else if lineE 20 (l.drop (p + n)) ≠ 0 then .error (lineE 20 (l.drop (p + n))) else .ok ((l.drop p).take n, l.drop (p + n + 2)) := by
  subst hn hp
  unfold sizeE at hE
  split at hE
  · cases hE
  · rename_i hz
    unfold chunkL
    rw [if_neg hz, if_neg (by rw [hE]; simp)]
    simp only [List.drop_drop, List.length_drop, Nat.add_assoc]
theorem chunkL_bad {m a : Nat} {l : List UInt8} (hE : sizeE (l.drop a) ≠ 0) : chunkL 20 m (l.drop a) = .error (sizeE (l.drop a)) := by
  unfold chunkL
  unfold sizeE at hE ⊢
  by_cases hz : numE (l.drop a) ≠ 0
  · rw [if_pos hz, if_pos hz]
  · rw [if_neg hz] at hE
    rw [if_neg hz, if_neg hz, if_pos hE]
/-- what 'chunks' tells -/
def ChunksRef (B n : Nat) (x : Except Nat (List UInt8 × List UInt8)) (e : Ending) (w' : World) : Prop :=
  ∃ (v : Value) (k y : Nat), e = .returned (.tuple #[v, .int .i64 (k : Int), .int .i64 (y : Int)]) ∧ (∃ ao m c, v = .slice ao m c) ∧
    match x with | .error z => y = z ∧ z ≠ 0 | .ok (c, t) => y = 0 ∧ t.length ≤ n ∧ k = n - t.length ∧ w'.ownsRow B 5 1 v c.length (c.map byteV)
theorem chunksRef_nil {B n z : Nat} {x : Except Nat (List UInt8 × List UInt8)} {w' : World} (hx : x = .error z) (hz : z ≠ 0) : ChunksRef B n x (.returned (.tuple #[.slice none 0 0, .int .i64 0, .int .i64 (z : Int)])) w' := by
  subst hx
  exact ⟨.slice none 0 0, 0, z, rfl, ⟨none, 0, 0, rfl⟩, rfl, hz⟩
theorem chunksRef_some {B n z k m c : Nat} {ao : Option Addr} {x : Except Nat (List UInt8 × List UInt8)} {w' : World} (hx : x = .error z) (hz : z ≠ 0) : ChunksRef B n x (.returned (.tuple #[.slice ao m c, .int .i64 (k : Int), .int .i64 (z : Int)])) w' := by
  subst hx
  exact ⟨.slice ao m c, k, z, rfl, ⟨ao, m, c, rfl⟩, rfl, hz⟩
theorem chunksRef_ok {B n k m c : Nat} {ao : Option Addr} {acc t : List UInt8} {x : Except Nat (List UInt8 × List UInt8)} {w' : World} (hx : x = .ok (acc, t)) (ht : t.length ≤ n) (hk : k = n - t.length) (ho : w'.ownsRow B 5 1 (.slice ao m c) acc.length (acc.map byteV)) :
    ChunksRef B n x (.returned (.tuple #[.slice ao m c, .int .i64 (k : Int), .int .i64 0])) w' := by
  subst hx
  exact ⟨.slice ao m c, k, 0, rfl, ⟨ao, m, c, rfl⟩, rfl, ht, hk, ho⟩
set_option maxRecDepth 100000 in
set_option maxHeartbeats 4000000 in
theorem refChunks_any (v : Value) (l : List UInt8) (w : World) (hr : Bytes w v l) (hl : l.length ≤ 1000000) :
    Calls Tryz.prog 71 #[v] w fun e w' => ChunksRef w.heap.size l.length (chunksL 20 (l.length + 1) [] l) e w' ∧ Below w.heap.size w w' := by
  obtain ⟨R, hR⟩ : ∃ R, chunksL 20 (l.length + 1) [] l = R := ⟨_, rfl⟩
  rw [hR]
  obtain ⟨ao, cap, rfl, -⟩ := bytes_form hr
  have HR := hid hr
  have HRR := hid hR
  clear hr hR
  go_enter Tryz.func71, Tryz.ntmps71
  go_wp2_with fail
  go_loopw [5, 6] (fun ov av wr => ∃ (acc : List UInt8) (a : Nat), wr.ownsRow w.heap.size 5 1 ov acc.length (acc.map byteV) ∧ av = .int .i64 (a : Int) ∧ a ≤ l.length ∧ acc.length ≤ 2048 ∧ chunksL 20 ((l.drop a).length + 1) acc (l.drop a) = R ∧ Below w.heap.size w wr) (fun _ av _ => l.length + 1 - (intOf av).toNat)
  case atStart => exact ⟨[], 0, World.ownsRow_nil _ _ _ _, rfl, by omega, by simp, by simpa using HRR.out, Below.refl _ _⟩
  case round =>
    obtain ⟨acc, a, ho, rfl, ha, hacc, hrun, hb⟩ := hrel
    obtain ⟨aob, capb, rfl⟩ := ownsRow_bytes_form ho
    have c1 := refSize_any (.slice ao l.length cap) l a wr (bytesRead (bytes_below HR.out hb)) (by omega) (by omega)
    have C1 := hid c1
    have HO := hid ho
    have HB := hid hb
    have HRUN := hid hrun
    clear c1 ho hb hrun
    go_wp2_with fail
    refine C1.out.mono ?_
    rintro e w1 ⟨⟨n, t, rfl, hnt⟩, rfl⟩
    by_cases hE : sizeE (l.drop a) = 0
    · obtain ⟨hn, ht⟩ := hnt hE
      have hroom := sizeE_room hE
      rw [List.length_drop] at hroom
      have hck := fun m => chunkL_at (m := m) hE hn (p := t + 2) (by omega)
      have hp : t + 2 ≤ l.length := by omega
      have hap : a + 2 ≤ t + 2 := by omega
      rw [hE]
      have hw1 : IntKind.i64.wrap ((t : Int) + 2) = ((t + 2 : Nat) : Int) := by rw [IntWalk.i64_in _ (by omega)]; simp
      have hw2 : IntKind.i64.wrap (2048 - (acc.length : Int)) = ((2048 - acc.length : Nat) : Int) := by rw [IntWalk.i64_in _ (by omega)]; omega
      generalize t + 2 = p at *
      clear hn ht hE hnt hroom
      by_cases hbig : 2048 - acc.length < n
      · have hz : ((2048 - acc.length : Nat) : Int) < (n : Int) := by omega
        have hRe : R = .error 23 := by rw [← HRUN.out]; exact chunksL_fail (by rw [hck, if_pos hbig])
        have HP := hid (chunksRef_nil (B := w.heap.size) (n := l.length) (w' := wr) hRe (by decide))
        clear hck hRe C1
        go_wp2_with fail
        go_ret3
        exact ⟨HP.out, HB.out⟩
      · have hz : ¬ ((2048 - acc.length : Nat) : Int) < (n : Int) := by omega
        by_cases hn0 : n = 0
        · subst hn0
          have cl := refLine_any (.slice ao l.length cap) l p wr (bytesRead (bytes_below HR.out HB.out)) (by omega) (by omega)
          have CL := hid cl
          have hck2 := hck (2048 - acc.length)
          rw [if_neg hbig, if_neg (by omega), Nat.add_zero] at hck2
          have hw3 : IntKind.i64.wrap ((p : Int) + 2) = ((p + 2 : Nat) : Int) := by rw [IntWalk.i64_in _ (by omega)]; simp
          have HCK := hid hck2
          clear cl hck hck2 C1
          go_wp2_with fail
          refine CL.out.mono ?_
          rintro e w1 ⟨rfl, rfl⟩
          have hck := HCK.out
          by_cases hf : lineE 20 (l.drop p) = 0
          · have h2 := lineE_room hf
            rw [List.length_drop] at h2
            rw [if_neg (by omega), List.take_zero] at hck
            have hRe : R = .ok (acc, l.drop (p + 2)) := by
              rw [← HRUN.out, chunksL, hck]
              simp
            have HP := hid (chunksRef_ok (B := w.heap.size) (n := l.length) (k := p + 2) hRe (by rw [List.length_drop]; omega) (by rw [List.length_drop]; omega) HO.out)
            rw [hf]
            clear hck hRe CL HCK hf h2
            go_wp2_with fail
            go_ret3
            exact ⟨HP.out, HB.out⟩
          · rw [if_pos hf] at hck
            have hRe : R = .error (lineE 20 (l.drop p)) := by rw [← HRUN.out]; exact chunksL_fail hck
            have HP := hid (chunksRef_some (B := w.heap.size) (n := l.length) (w' := wr) (k := p + 2) (ao := aob) (m := acc.length) (c := capb) hRe hf)
            clear hck hRe CL HCK
            generalize lineE 20 (l.drop p) = f at *
            go_wp2_with fail
            go_ret3
            exact ⟨HP.out, HB.out⟩
        · have hnz : ((n : Int) == 0) = false := by simp; omega
          have hw4 : IntKind.i64.wrap ((l.length : Int) - (p : Int)) = ((l.length - p : Nat) : Int) := by rw [IntWalk.i64_in _ (by omega)]; omega
          have hck2 := hck (2048 - acc.length)
          rw [if_neg hbig] at hck2
          by_cases hsh : l.length - p < n
          · have hz4 : ((l.length - p : Nat) : Int) < (n : Int) := by omega
            rw [if_pos hsh] at hck2
            have hRe : R = .error 20 := by rw [← HRUN.out]; exact chunksL_fail hck2
            have HP := hid (chunksRef_nil (B := w.heap.size) (n := l.length) (w' := wr) hRe (by decide))
            clear hck hck2 hRe C1
            go_wp2_with fail
            go_ret3
            exact ⟨HP.out, HB.out⟩
          · have hz4 : ¬ ((l.length - p : Nat) : Int) < (n : Int) := by omega
            rw [if_neg hsh] at hck2
            have hw5 : IntKind.i64.wrap ((p : Int) + (n : Int)) = ((p + n : Nat) : Int) := by rw [IntWalk.i64_in _ (by omega)]; simp
            have hw6 : IntKind.i64.wrap ((n : Int) + 2) = ((n + 2 : Nat) : Int) := by rw [IntWalk.i64_in _ (by omega)]; simp
            have hw7 : IntKind.i64.wrap ((p : Int) + ((n + 2 : Nat) : Int)) = ((p + (n + 2) : Nat) : Int) := by rw [IntWalk.i64_in _ (by omega)]; simp
            have hpn : p + n ≤ l.length := by omega
            obtain ⟨aox, cx, hsl, hbx⟩ := bytes_two (P := Tryz.prog) 27 (by kernel_rfl) (fun _ => by kernel_rfl) (bytes_below HR.out HB.out) p n hpn
            obtain ⟨c, hc⟩ : ∃ c, (l.drop p).take n = c := ⟨_, rfl⟩
            have hcl : c.length = n := by rw [← hc, List.length_take, List.length_drop]; omega
            rw [hc] at hck2 hbx
            have HSL := hid hsl
            have HBX := hid (bytesRead hbx)
            have HCK := hid (And.intro hck2 hcl)
            have ho2 := HO.out
            have hs2 : w.heap.size ≤ wr.heap.size := HB.out.size
            have hll : acc.length + c.length < 4294967296 := by omega
            clear hck hck2 C1 hsl hbx hc
            go_wp2_with (first | (at_builtin; go_must (refine wpList_append_all _ rfl _ _ 27 rfl w.heap.size 5 Tryz.underlying27 infoU8 rfl (by decide) rfl ho2 HBX.out (oneCell_bytes _) rfl (by rw [List.length_map]; exact hll) hs2 ?_); intro v' w3 hown3 hg3 hb3) | (refine wpList_slice_two rfl 27 _ _ _ rfl rfl rfl rfl (by kernel_rfl) (HSL.out _) ?_))
            have hb3' : Below w.heap.size w w3 := HB.out.trans hb3
            have cl := refLine_any (.slice ao l.length cap) l (p + n) w3 (bytesRead (bytes_below HR.out hb3')) (by omega) (by omega)
            have CL := hid cl
            have HB3 := hid hb3'
            have HO3 := hid hown3
            clear cl hb3' hown3 hg3 hb3 ho2 HSL HBX
            go_wp2_with fail
            refine CL.out.mono ?_
            rintro e w1 ⟨rfl, rfl⟩
            obtain ⟨hck, hcl⟩ := HCK.out
            by_cases hf : lineE 20 (l.drop (p + n)) = 0
            · have h2 := lineE_room hf
              rw [List.length_drop] at h2
              rw [if_neg (by omega)] at hck
              have hRe : chunksL 20 ((l.drop (p + (n + 2))).length + 1) (acc ++ c) (l.drop (p + (n + 2))) = R := by
                rw [← HRUN.out, chunksL_step hck (by omega)]
                exact chunksL_fuel (by decide) _ _ _ _ (by simp only [List.length_drop]; omega) (by simp only [List.length_drop]; omega)
              have HRE := hid hRe
              rw [hf]
              clear hck hRe CL HCK hf
              go_wp2_with fail
              go_roundw
              case rel =>
                refine ⟨acc ++ c, p + (n + 2), ?_, rfl, by omega, by rw [List.length_append]; omega, HRE.out, HB3.out⟩
                simpa using HO3.out
              case measure => simp only [intOf]; omega
            · rw [if_pos hf] at hck
              have hRe : R = .error (lineE 20 (l.drop (p + n))) := by rw [← HRUN.out]; exact chunksL_fail hck
              have HP := hid (chunksRef_nil (B := w.heap.size) (n := l.length) (w' := w3) hRe hf)
              have hfz : ((lineE 20 (l.drop (p + n)) : Int) != 0) = true := by simp; omega
              clear hck hRe CL HCK
              generalize lineE 20 (l.drop (p + n)) = f at *
              go_wp2_with fail
              go_ret3
              exact ⟨HP.out, HB3.out⟩
    · have hRe : R = .error (sizeE (l.drop a)) := by rw [← HRUN.out]; exact chunksL_fail (chunkL_bad hE)
      have HP := hid (chunksRef_nil (B := w.heap.size) (n := l.length) (w' := wr) hRe hE)
      have hfz : ((sizeE (l.drop a) : Int) != 0) = true := by simp; omega
      clear hRe hnt C1
      generalize sizeE (l.drop a) = f at *
      go_wp2_with fail
      go_ret3
      exact ⟨HP.out, HB.out⟩
end Go.Proofs.YtefplhkjcclppaaGreatDoor
