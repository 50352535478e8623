/-
  The condition on the two tables of package date, whatever else a row lists.
-/
import Derived.Test.YtoolboafbkikjaaDoorLaid
import Derived.Test.YtoolboafbkikjaaDoorF13DateShow
import Derived.MakeChecks
import Derived.LaidSub
set_option linter.unusedVariables false
set_option linter.unusedSimpArgs false

namespace Go.Proofs.YtoolboafbkikjaaDoor
open Go.RowKit Go.Pantry

theorem tables_of {W : World} {L} (h : laidMetH Tryd.prog L W) (hL : (L.filter fun x => x.1 == "pantry/date.weekdays" || x.1 == "pantry/date.months") = [("pantry/date.weekdays", strsData wdT), ("pantry/date.months", strsData moT)]) : Tables W := by
  have h2 := laidMetH.filter (fun x => x.1 == "pantry/date.weekdays" || x.1 == "pantry/date.months") h
  rw [hL] at h2
  rw [MakeChecks.laidMetH_plain _ _ _ (by kernel_rfl)] at h2
  obtain ⟨ps, hv, -⟩ := h2
  obtain ⟨h1, qs, hv2⟩ := strs_of_laid (g := 0) (t := 112) (e := 9) (n := 7) (by kernel_rfl) (by kernel_rfl) Tryd.underlying112 Tryd.underlying9 (by kernel_rfl) (by kernel_rfl) hv
  obtain ⟨h2, -⟩ := strs_of_laid (g := 1) (t := 114) (e := 9) (n := 12) (by kernel_rfl) (by kernel_rfl) Tryd.underlying114 Tryd.underlying9 (by kernel_rfl) (by kernel_rfl) hv2
  refine ⟨fun j hj => h1 j _ ?_, fun j hj => h2 j _ ?_⟩
  · rw [List.getElem?_eq_getElem (show j < wdT.length from hj), List.getD_eq_getElem?_getD, List.getElem?_eq_getElem (show j < wdT.length from hj)]; rfl
  · rw [List.getElem?_eq_getElem (show j < moT.length from hj), List.getD_eq_getElem?_getD, List.getElem?_eq_getElem (show j < moT.length from hj)]; rfl
end Go.Proofs.YtoolboafbkikjaaDoor
