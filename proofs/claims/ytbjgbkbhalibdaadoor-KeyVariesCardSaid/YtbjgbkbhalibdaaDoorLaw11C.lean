/-
  What the walks of layer 11 take of package key; the example.
-/
import Derived.Test.YtbjgbkbhalibdaaDoorLaw11S
namespace Go.Proofs.YtbjgbkbhalibdaaDoor
open Go.RowKit Go.Pantry

/-- package key's contracts, in worlds where Ok holds -/
structure Keys (Ok : World → Prop) : Prop where
  keep : ∀ w w', Ok w → Below w.heap.size w w' → Ok w'
  first : ∀ (hv lv : Value) (s : SiteZ) (p : PlaceR) (l : List Fld) (w : World), Ok w → Reads2 w lv l → Reads w hv (s.heads.map strV) → SmallF l → s.heads.length ≤ 1000 → (∀ y ∈ s.heads, y.length ≤ 1000) → p.host.length ≤ 1000 → p.path.length ≤ 1000 → p.query.length ≤ 1000 →
    Calls Tryd.prog 13 #[.agg (rowZ hv s), .agg #[strV p.host, strV p.path, strV p.query, .bool p.has], lv] w fun e w' => e = .returned (strV (firstL s.query s.heads p l)) ∧ Below w.heap.size w w'
  second : ∀ (lv nv : Value) (l : List Fld) (ns : List (List UInt8)) (w : World), Ok w → Reads2 w lv l → Reads w nv (ns.map strV) → SmallF l → ns.length ≤ 20000 → (∀ y ∈ ns, y.length ≤ 20000) →
    Calls Tryd.prog 14 #[lv, nv] w fun e w' => e = .returned (strV (secondL l ns)) ∧ Below w.heap.size w w'
  names : ∀ (lv : Value) (l : List Fld) (w : World), Ok w → Reads2 w lv l → SmallF l →
    Calls Tryd.prog 15 #[lv] w fun e w' => ∃ v', e = .returned (.tuple #[v', .bool (starE (elementsF l varyN))]) ∧ Reads w' v' ((varyE (elementsF l varyN)).map strV) ∧ Below w.heap.size w w'
theorem infoPlaceK : (Tryd.prog.info? 26).map (·.size) = some 4 := by kernel_rfl
theorem infoFldK : (Tryd.prog.info? 41).map (·.size) = some 2 := by kernel_rfl
def exV : List UInt8 := [66, 44, 32, 97, 44, 98, 32, 44, 32, 42]
theorem ex_vary : varyE (elementsF [(varyN, exV)] varyN) = [[97], [98]] ∧ starE (elementsF [(varyN, exV)] varyN) = true := by decide +kernel
theorem ex_first : firstL false [[97, 99, 99, 101, 112, 116]] ⟨[97, 46, 98], [47, 120], [113], true⟩ [] = [51, 58, 97, 46, 98, 50, 58, 47, 120, 45] := by
  have h3 : decL 3 = [51] := decL_small (by decide)
  have h2 : decL 2 = [50] := decL_small (by decide)
  simp [firstL, queryK, secondL, markF, markT, allF, h3, h2]
set_option maxRecDepth 4000 in
theorem anchor_any {Ok : World → Prop} (K : Keys Ok) (w : World) (ok : Ok w) :
    Calls Tryd.prog 8 #[] w fun e w' => e = .returned (.bool true) ∧ Below w.heap.size w w' := by
  have c1 := fun (W : World) (hv : Value) (o : Ok W) (h : Reads W hv ([[97, 99, 99, 101, 112, 116]].map strV)) => K.first hv (.slice none 0 0) ⟨[], 0, 0, 0, false, false, [[97, 99, 99, 101, 112, 116]]⟩ ⟨[97, 46, 98], [47, 120], [113], true⟩ [] W o ⟨none, 0, rfl, (fun j p hj => by simp at hj), fun _ => rfl, Nat.le_refl _⟩ h ⟨by decide, by simp, by simp⟩ (by decide) (by simp) (by decide) (by decide) (by decide)
  have c2 := fun (W : World) (lv : Value) (o : Ok W) (h : Reads2 W lv [(varyN, exV)]) => K.names lv [(varyN, exV)] W o h ⟨by decide, by simp [varyN], by simp [exV]⟩
  rw [ex_vary.1, ex_vary.2] at c2
  simp only [ex_first] at c1
  have C1 := hid c1
  have C2 := hid c2
  clear c1 c2
  go_enter Tryd.func8, Tryd.ntmps8
  go_wp2_with fail
  have hb0 := below_alloc w (.cells #[strV [97, 99, 99, 101, 112, 116]] 9)
  refine (C1.out _ _ (K.keep _ _ ok hb0) (reads_one_at w [97, 99, 99, 101, 112, 116] _ _ _ rfl)).mono ?_
  rintro e w1 ⟨rfl, hb1⟩
  have hbw := chain2 hb0 hb0.size hb1
  have HBW := hid hbw
  have OK1 := hid (K.keep _ _ ok hbw)
  clear hb0 hb1 hbw
  go_wp2_with fail
  have hb0 := below_alloc w1 (.cells #[strV varyN, strV exV] 41)
  refine (C2.out _ _ (K.keep _ _ OK1.out hb0) (reads2_new_at w1 (varyN, exV) _ _ _ rfl)).mono ?_
  rintro e w2 ⟨v', rfl, hr2, hb2⟩
  have hbq := chain2 hb0 hb0.size hb2
  have HBQ := hid (chain2 HBW.out HBW.out.size hbq)
  obtain ⟨vo, vc, rfl⟩ := hr2.strs
  obtain ⟨b, off, rfl, d0⟩ := hr2.str (j := 0) (x := [97]) rfl
  obtain ⟨b1, off1, e1, d1⟩ := hr2.str (j := 1) (x := [98]) rfl
  cases e1
  rw [Nat.add_zero] at d0
  clear hb0 hb2 hbq hr2
  go_wp2_with fail
  go_ret
  exact ⟨rfl, HBQ.out⟩
end Go.Proofs.YtbjgbkbhalibdaaDoor
