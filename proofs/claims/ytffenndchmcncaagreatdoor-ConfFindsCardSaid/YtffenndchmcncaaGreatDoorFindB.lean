/-
  Contract of package conf: Find.
-/
import Derived.Test.YtffenndchmcncaaGreatDoorFindA
namespace Go.Proofs.YtffenndchmcncaaGreatDoor
open Go.RowKit Go.Pantry

/-- the first site of that host -/
def FindPost (w : World) (L : List (SiteZ × Value)) (host : List UInt8) (e : Ending) (w' : World) : Prop :=
  (match L.find? (fun x => x.1.host == host) with
    | some x => ∃ hv, e = .returned (.tuple #[.agg (rowZ hv x.1), .bool true]) ∧ Reads w' hv (x.1.heads.map strV)
    | none => e = .returned (.tuple #[.agg zeroSite, .bool false])) ∧ Below w.heap.size w w'
set_option maxRecDepth 8000 in
theorem find_any (v : Value) (L : List (SiteZ × Value)) (host : List UInt8) (w : World) (h : ReadsP w v L) (hl : L.length ≤ 1000000) (hh : ∀ x ∈ L, x.1.heads.length ≤ 1000000) :
    Calls Tryz.prog 23 #[.agg #[v], strV host] w (FindPost w L host) := by
  obtain ⟨n, hn⟩ : ∃ n, L.length = n := ⟨_, rfl⟩
  obtain ⟨ao, c, e1, f1⟩ := h.form
  rw [hn] at e1
  subst e1
  have HR := hid h
  have HH := hid hh
  have HL := hid hn
  have hnl : n ≤ 1000000 := by omega
  obtain ⟨A, hA⟩ : ∃ A, w.heap.size + 1 = A := ⟨_, rfl⟩
  have J0 : Hid (rowIs ((w.alloc (.cells #[.slice ao n c] 25)).alloc (.cells zeroSite 42)) A zeroSite 42 ∧ Below w.heap.size w ((w.alloc (.cells #[.slice ao n c] 25)).alloc (.cells zeroSite 42))) :=
    ⟨rowIs_new_at _ _ _ _ (by simp; omega), chainP (below_alloc _ _) (below_alloc _ _)⟩
  have HA := hid hA
  have j1 := ((rowIs_new w #[.slice ao n c] 25).below (below_alloc _ (.cells zeroSite 42))).cell 0
  clear h hn hh hl f1 hA
  go_enter Tryz.func23, Tryz.ntmps23
  go_wp2_with fail
  clear j1
  go_loopw [11] (fun z wr => ∃ (k : Nat), z = .int .i64 (k : Int) ∧ k ≤ n ∧ rowIs wr A zeroSite 42 ∧ Below w.heap.size w wr ∧ (L.take k).find? (fun x => x.1.host == host) = none) (fun z _ => n - (intOf z).toNat)
  case atStart => exact ⟨0, rfl, Nat.zero_le _, J0.out.1, J0.out.2, rfl⟩
  case round =>
    clear J0
    obtain ⟨k, rfl, hk, hra, hb, hf⟩ := hrel
    have HB := hid (And.intro hra (And.intro hb hf))
    by_cases hlt : k < n
    · obtain ⟨⟨s, hv⟩, hx⟩ : ∃ x, L[k]? = some x := by
        have := HL.out
        exact ⟨L[k]'(by omega), List.getElem?_eq_getElem (by omega)⟩
      obtain ⟨ah, ch, hfv⟩ := (HR.out.heads _ (List.mem_of_getElem? hx)).form
      simp only at hfv
      obtain ⟨nh, hnh⟩ : ∃ nh, (s.heads.map strV).length = nh := ⟨_, rfl⟩
      rw [hnh] at hfv
      subst hfv
      obtain ⟨b1, o1, g1, i1⟩ := (HR.out.below hb).at_ hx
      subst g1
      have hkI : (k : Int) < (n : Int) := by omega
      have hk0 : (0 : Int) ≤ (k : Int) := by omega
      have hkw : IntKind.i64.wrap ((k : Int) + 1) = (k : Int) + 1 := IntWalk.i64_in _ (by omega)
      obtain ⟨p1, hp1⟩ : ∃ p, o1 + k * 7 = p := ⟨_, rfl⟩
      rw [hp1] at i1
      have y0 := i1 0 _ rfl
      have y1 := i1 1 _ rfl
      have y2 := i1 2 _ rfl
      have y3 := i1 3 _ rfl
      have y4 := i1 4 _ rfl
      have y5 := i1 5 _ rfl
      have y6 := i1 6 _ rfl
      rw [Nat.add_zero] at y0
      have hhd := (HR.out.heads _ (List.mem_of_getElem? hx)).below hb
      have HX := hid (And.intro hx hhd)
      have hhl : s.heads.length ≤ 1000000 := HH.out _ (List.mem_of_getElem? hx)
      clear hb hx i1 hra hf hnh hhd
      by_cases hm : s.host = host
      · subst hm
        have z1 : (s.host == s.host) = true := by simp
        go_wp2_with fail
        change Calls _ _ _ (wr.alloc (.cells (rowZ (.slice ah nh ch) s) 42)) _
        obtain ⟨W1, hW1⟩ : ∃ W, wr.alloc (.cells (rowZ (.slice ah nh ch) s) 42) = W := ⟨_, rfl⟩
        have hb1 : Below wr.heap.size wr W1 := by rw [← hW1]; exact below_alloc _ _
        have hr1 : rowIs W1 wr.heap.size (rowZ (.slice ah nh ch) s) 42 := by rw [← hW1]; exact rowIs_new _ _ _
        rw [hW1]
        clear y0 y1 y2 y3 y4 y5 y6 hW1
        refine (cloneS_any (.slice ah nh ch) s.heads W1 (HX.out.2.below hb1) hhl).mono ?_
        rintro e w3 ⟨v3, rfl, hr3, hb3⟩
        obtain ⟨a3, c3, hf3⟩ := ownsRow_formN hr3
        obtain ⟨n3, hn3⟩ : ∃ n3, s.heads.length = n3 := ⟨_, rfl⟩
        rw [hn3] at hf3 hr3
        subst hf3
        have HBB := hid (And.intro (hb1.trans (hb3.mono hb1.size)) (And.intro (chainP (chainP HB.out.2.1 hb1) hb3) hr1.lt))
        have hrx := hr1.below hb3
        have hra := (HB.out.1.below hb1).below hb3
        have hne : A ≠ wr.heap.size := by have := HA.out; have := HB.out.1.lt; omega
        have hra2 := hra.setCell_block (g' := wr.heap.size) hne 6 (.slice a3 n3 c3)
        have hrx2 := hrx.setCell 6 (.slice a3 n3 c3)
        have c6 := hrx.cell 6
        have f6 := hrx.free 6
        have HR3 := hid hr3
        rw [← HA.out] at hra2
        clear hn3 hr3 hra hb1 hb3 hr1
        go_wp2_with (first
          | (refine wpList_load_row rfl 42 _ rfl wr.heap.size rfl 42 _ (0, 0) _ hrx2 Tryz.underlying42 rfl infoSite ?_)
          | (refine wpList_store_row rfl 42 _ _ rfl (w.heap.size + 1) _ rfl rfl 42 _ hra2 infoSite rfl (oneSite _ _ _ _ _ _ _ _ _) ?_))
        refine bodyPost_ret (results_row2 Tryz.results23 _ _ (w.heap.size + 1) _ rfl (hra2.setRow _) Tryz.underlying42 rfl infoSite) rfl ?_
        have kk := ((Kept.refl (fun g => g = wr.heap.size ∨ g = w.heap.size + 1) w3).setCell (i := 6) (.inl (.inl rfl)) (.slice a3 n3 c3)).setRow (g := w.heap.size + 1) (.inl (.inr rfl)) (rowZ (.slice a3 n3 c3) s)
        have ho := ownsRow_kept HR3.out kk (fun g hg hX => by
          have h1 := (HR3.out.lt _ hg).1
          have h2 := HBB.out.2.2
          have h3 := HB.out.1.lt
          have h4 := HA.out
          rcases hX with e | e <;> omega)
        have hfd : L.find? (fun x => x.1.host == s.host) = some (s, .slice ah nh ch) := by
          obtain ⟨hkl, hkx⟩ := List.getElem?_eq_some_iff.1 HX.out.1
          rw [← List.take_append_drop k L, List.find?_append, HB.out.2.2, Option.none_or, List.drop_eq_getElem_cons hkl, hkx]
          simp
        refine ⟨?_, ?_⟩
        · rw [hfd]
          exact ⟨.slice a3 n3 c3, rfl, ho.reads⟩
        · refine ((Kept.of_below (X := fun g => g = wr.heap.size ∨ g = w.heap.size + 1) HBB.out.2.1).setCell (i := 6) (.inl (.inl rfl)) (.slice a3 n3 c3)).setRow (g := w.heap.size + 1) (.inl (.inr rfl)) (rowZ (.slice a3 n3 c3) s) |>.below (fun g h _ => ?_) (Nat.le_refl _)
          have := HB.out.2.1.size
          rcases h with e | e <;> omega
      · have z1 : (s.host == host) = false := by simp [hm]
        go_wp2_with fail
        go_roundw
        case rel =>
          refine ⟨k + 1, by go_num, hlt, HB.out.1.below (below_alloc _ _), chainP HB.out.2.1 (below_alloc _ _), ?_⟩
          rw [List.take_add_one, HX.out.1]
          simp [HB.out.2.2, hm]
        case measure => simp [intOf]; omega
    · have hkn : k = n := by omega
      have hfn : L.find? (fun x => x.1.host == host) = none := by
        have := HB.out.2.2
        rwa [List.take_of_length_le (by have := HL.out; omega)] at this
      rw [← HA.out] at hra
      clear hb hf
      go_wp2_with (refine wpList_store_row rfl 42 _ _ rfl (w.heap.size + 1) _ rfl rfl 42 _ hra infoSite rfl (oneSite _ _ _ _ _ _ _ _ _) ?_)
      refine bodyPost_ret (results_row2 Tryz.results23 _ _ (w.heap.size + 1) _ rfl (hra.setRow _) Tryz.underlying42 rfl infoSite) rfl ?_
      refine ⟨?_, below_setRow HB.out.2.1 (by omega) _⟩
      rw [hfn]; rfl
end Go.Proofs.YtffenndchmcncaaGreatDoor
