/-
  Contract of pantrymade.Site, where no config's reader is.
-/
import Derived.Test.YtejdlplgkmelkaaGreatDoorF1203
set_option linter.unusedVariables false
set_option linter.unusedSimpArgs false

namespace Go.Proofs.YtejdlplgkmelkaaGreatDoor
open Go.RowKit Go.Pantry

theorem infoRefSiteK : (Tryz.prog.info? 32).map (·.size) = some 7 := by kernel_rfl
theorem madeSiteK_any (hv : Value) (s : SiteZ) (w : World) (hf : ∃ ao n c, hv = .slice ao n c) :
    Calls Tryz.prog 15 #[.agg (rowZ hv s)] w fun e w' => e = .returned (.agg (rowZ hv s)) ∧ Below w.heap.size w w' := by
  obtain ⟨ao, n, c, rfl⟩ := hf
  obtain ⟨A, hA⟩ : ∃ A, w.heap.size = A := ⟨_, rfl⟩
  obtain ⟨B, hB⟩ : ∃ B, A + 1 = B := ⟨_, rfl⟩
  have r1 : rowIs ((w.alloc (.cells (rowZ (.slice ao n c) s) 24)).alloc (.cells #[.string ⟨#[]⟩, .int .i64 0, .int .i64 0, .int .i64 0, .bool false, .bool false, .slice none 0 0] 32)) A (rowZ (.slice ao n c) s) 24 := by rw [← hA]; exact (rowIs_new _ _ _).below (below_alloc _ _)
  have r2 : rowIs ((w.alloc (.cells (rowZ (.slice ao n c) s) 24)).alloc (.cells #[.string ⟨#[]⟩, .int .i64 0, .int .i64 0, .int .i64 0, .bool false, .bool false, .slice none 0 0] 32)) B #[.string ⟨#[]⟩, .int .i64 0, .int .i64 0, .int .i64 0, .bool false, .bool false, .slice none 0 0] 32 := rowIs_new_at _ _ _ _ (by simp; omega)
  have hbb := (below_alloc w (.cells (rowZ (.slice ao n c) s) 24)).trans ((below_alloc _ (.cells #[.string ⟨#[]⟩, .int .i64 0, .int .i64 0, .int .i64 0, .bool false, .bool false, .slice none 0 0] 32)).mono (by simp))
  have HB := hid (And.intro hbb (And.intro hA hB))
  have R2 := hid r2
  clear hbb
  go_enter Tryz.func15, Tryz.ntmps15
  go_wp2_with (first
    | (refine wpList_load_row rfl 24 _ rfl A rfl 24 _ (0, 0) _ r1 Tryz.underlying24 rfl infoSiteK ?_)
    | (refine wpList_store_row rfl 32 _ _ rfl B _ rfl rfl 32 _ r2 infoRefSiteK rfl (oneSiteK _ _ _ _ _ _ _ _ _) ?_))
  refine bodyPost_ret (results_row Tryz.results15 _ _ B _ rfl (R2.out.setRow _) Tryz.underlying32 rfl infoRefSiteK) rfl ?_
  refine ⟨rfl, ?_⟩
  exact ((Kept.of_below (X := fun k => k = B) HB.out.1).setRow (g := B) (.inl rfl) _).below (fun k h _ => by have := HB.out.2; omega) (Nat.le_refl _)
end Go.Proofs.YtejdlplgkmelkaaGreatDoor
