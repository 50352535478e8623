/-
  The condition on the two tables of package date, as the walks ask it.
-/
import Derived.Test.YtjggelnpfeeabaaDoorRows
import Derived.Test.YtjggelnpfeeabaaDoorLaid
import Derived.Test.YtjggelnpfeeabaaDoorDateShow
import Derived.MakeChecks
namespace Go.Proofs.YtjggelnpfeeabaaDoor
open Go.RowKit Go.Pantry

theorem tables_of_laid {W : World} (h : laidMetH Tryd.prog [("pantry/date.weekdays", Rows.laid_pantry_date_weekdays), ("pantry/date.months", Rows.laid_pantry_date_months)] W) : Tables W := by
  rw [MakeChecks.laidMetH_plain _ _ _ (by kernel_rfl)] at h
  obtain ⟨ps, hv, -⟩ := h
  have hv' : DataW.LaidVars Tryd.prog W [("pantry/date.weekdays", strsData wdT), ("pantry/date.months", strsData moT)] ps := hv
  obtain ⟨h1, qs, hv2⟩ := strs_of_laid (g := 0) (t := 40) (e := 9) (n := 7) (by kernel_rfl) (by kernel_rfl) Tryd.underlying40 Tryd.underlying9 (by kernel_rfl) (by kernel_rfl) hv'
  obtain ⟨h2, -⟩ := strs_of_laid (g := 1) (t := 42) (e := 9) (n := 12) (by kernel_rfl) (by kernel_rfl) Tryd.underlying42 Tryd.underlying9 (by kernel_rfl) (by kernel_rfl) hv2
  refine ⟨fun j hj => h1 j _ ?_, fun j hj => h2 j _ ?_⟩
  · rw [List.getElem?_eq_getElem (show j < wdT.length from hj), List.getD_eq_getElem?_getD, List.getElem?_eq_getElem (show j < wdT.length from hj)]; rfl
  · rw [List.getElem?_eq_getElem (show j < moT.length from hj), List.getD_eq_getElem?_getD, List.getElem?_eq_getElem (show j < moT.length from hj)]; rfl
end Go.Proofs.YtjggelnpfeeabaaDoor
