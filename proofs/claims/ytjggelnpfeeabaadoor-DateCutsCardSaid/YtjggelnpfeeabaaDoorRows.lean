/-
  NARROWER THAN 'FOR EVERY INPUT', by the rows' own cells (each row's printed sentence says how): DateShows: laid · DateBack: laid · DateReads: laid · DateDays: laid · DateOrder: laid · DateWeek: laid · DateCuts: laid.
  DERIVED. THE GIVEN ROWS OF THIS SEAT. 7 by the template 'for every input the law returns true; each argument reads behind the call as it read before'; 0 by the template 'total and deterministic' (their statements: YtjggelnpfeeabaaDoorTotals.lean).
  GIVEN WITH THE SEED: the statements are not yours to turn. If you find one false, say at which input.
  Laid BY PROGRAM, IN A SANDBOX (cutbox-rows.mjs): the forced cells as the released guide's own fill.sh prints them over the translation 0e50460012a6418f… (all of the seat's roots in one cut). By AI agents, Wed Nov 11 2026. No macro, syntax, notation, axiom, sorry.
-/
import Derived.Test.YtjggelnpfeeabaaDoorChecked
import GoSem.Claim
import GoSem.ClaimJoined
import GoSem.ClaimMapViews
import Derived.JoinedTies
import Derived.KernelRfl
namespace Go.Proofs.YtjggelnpfeeabaaDoor
/- THE CELL 'sum', in the pinned program and in every row, IS THE sha256 OF THE DUMP (.gsa) THAT YtjggelnpfeeabaaDoorProg.lean LOADS. Nothing in Lean hashes anything: it is a label: what it is worth is what the hold of that sum in a sandbox is worth. -/
noncomputable def Tryd.pinned : Pinned := { name := "ytjggelnpfeeabaadoor", sum := "0e50460012a6418f648832031b72a6a45aa0c252714ccee882688e7c3a004e4d", checked := Tryd.checked }
namespace Rows
def none {H : Type} : Left H := { results := [], args := [] }

/- WHAT THE LISTED PACKAGE-LEVEL VARIABLES READ AS WHEN THE CALL BEGINS. Each datum BY PROGRAM (the guide's laid-datum.mjs) off the statement by which the dump's own 'gosem.cut.vars' lays the variable. In a bare row this is a premise. The card (YtjggelnpfeeabaaDoorCards.lean) ties it to the program's text. -/
def laid_pantry_date_weekdays {H : Type} : DataW H := .agg [.lit (.string [84, 104, 117]), .lit (.string [70, 114, 105]), .lit (.string [83, 97, 116]), .lit (.string [83, 117, 110]), .lit (.string [77, 111, 110]), .lit (.string [84, 117, 101]), .lit (.string [87, 101, 100])]
def laid_pantry_date_months {H : Type} : DataW H := .agg [.lit (.string [74, 97, 110]), .lit (.string [70, 101, 98]), .lit (.string [77, 97, 114]), .lit (.string [65, 112, 114]), .lit (.string [77, 97, 121]), .lit (.string [74, 117, 110]), .lit (.string [74, 117, 108]), .lit (.string [65, 117, 103]), .lit (.string [83, 101, 112]), .lit (.string [79, 99, 116]), .lit (.string [78, 111, 118]), .lit (.string [68, 101, 99])]

/-- 'pantrylaw02.DateShows': WHATEVER THE INPUT: true; the input reads as it did. -/
def dateShowsSpec : ChangeSpec := { name := "dateShows", fn := fun _ => fun
  | [d] => { results := [.lit (.bool true)], args := [d] }
  | _ => none }
def dateShowsRow : OpenClaim := { program := "ytjggelnpfeeabaadoor", sum := "0e50460012a6418f648832031b72a6a45aa0c252714ccee882688e7c3a004e4d", func := "pantry/pantrylaw02.DateShows", spec := "dateShows", named := ["pantry/date.weekdays", "pantry/date.months"], apart := false, laid := [("pantry/date.weekdays", laid_pantry_date_weekdays), ("pantry/date.months", laid_pantry_date_months)] }
def DateShowsSaid : Prop := dateShowsRow.holds Tryd.pinned (OpenSpec.ofChange dateShowsSpec)

/-- ITS FALSE NEIGHBOUR: 'it returns false'. Refute it at one input. -/
def dateShowsWrong : ChangeSpec := { name := "dateShows", fn := fun _ => fun
  | [d] => { results := [.lit (.bool false)], args := [d] }
  | _ => none }
def DateShowsWrongFalsely : Prop := dateShowsRow.holds Tryd.pinned (OpenSpec.ofChange dateShowsWrong)

/-- 'pantrylaw02.DateBack': WHATEVER THE INPUT: true; the input reads as it did. -/
def dateBackSpec : ChangeSpec := { name := "dateBack", fn := fun _ => fun
  | [d] => { results := [.lit (.bool true)], args := [d] }
  | _ => none }
def dateBackRow : OpenClaim := { program := "ytjggelnpfeeabaadoor", sum := "0e50460012a6418f648832031b72a6a45aa0c252714ccee882688e7c3a004e4d", func := "pantry/pantrylaw02.DateBack", spec := "dateBack", named := ["pantry/date.weekdays", "pantry/date.months"], apart := false, laid := [("pantry/date.weekdays", laid_pantry_date_weekdays), ("pantry/date.months", laid_pantry_date_months)] }
def DateBackSaid : Prop := dateBackRow.holds Tryd.pinned (OpenSpec.ofChange dateBackSpec)

/-- ITS FALSE NEIGHBOUR: 'it returns false'. Refute it at one input. -/
def dateBackWrong : ChangeSpec := { name := "dateBack", fn := fun _ => fun
  | [d] => { results := [.lit (.bool false)], args := [d] }
  | _ => none }
def DateBackWrongFalsely : Prop := dateBackRow.holds Tryd.pinned (OpenSpec.ofChange dateBackWrong)

/-- 'pantrylaw02.DateReads': WHATEVER THE INPUT: true; the input reads as it did. -/
def dateReadsSpec : ChangeSpec := { name := "dateReads", fn := fun _ => fun
  | [d1, d2, d3] => { results := [.lit (.bool true)], args := [d1, d2, d3] }
  | _ => none }
def dateReadsRow : OpenClaim := { program := "ytjggelnpfeeabaadoor", sum := "0e50460012a6418f648832031b72a6a45aa0c252714ccee882688e7c3a004e4d", func := "pantry/pantrylaw02.DateReads", spec := "dateReads", named := ["pantry/date.weekdays", "pantry/date.months"], apart := false, laid := [("pantry/date.weekdays", laid_pantry_date_weekdays), ("pantry/date.months", laid_pantry_date_months)] }
def DateReadsSaid : Prop := dateReadsRow.holds Tryd.pinned (OpenSpec.ofChange dateReadsSpec)

/-- ITS FALSE NEIGHBOUR: 'it returns false'. Refute it at one input. -/
def dateReadsWrong : ChangeSpec := { name := "dateReads", fn := fun _ => fun
  | [d1, d2, d3] => { results := [.lit (.bool false)], args := [d1, d2, d3] }
  | _ => none }
def DateReadsWrongFalsely : Prop := dateReadsRow.holds Tryd.pinned (OpenSpec.ofChange dateReadsWrong)

/-- 'pantrylaw02.DateDays': WHATEVER THE INPUT: true; the input reads as it did. -/
def dateDaysSpec : ChangeSpec := { name := "dateDays", fn := fun _ => fun
  | [d1, d2, d3] => { results := [.lit (.bool true)], args := [d1, d2, d3] }
  | _ => none }
def dateDaysRow : OpenClaim := { program := "ytjggelnpfeeabaadoor", sum := "0e50460012a6418f648832031b72a6a45aa0c252714ccee882688e7c3a004e4d", func := "pantry/pantrylaw02.DateDays", spec := "dateDays", named := ["pantry/date.weekdays", "pantry/date.months"], apart := false, laid := [("pantry/date.weekdays", laid_pantry_date_weekdays), ("pantry/date.months", laid_pantry_date_months)] }
def DateDaysSaid : Prop := dateDaysRow.holds Tryd.pinned (OpenSpec.ofChange dateDaysSpec)

/-- ITS FALSE NEIGHBOUR: 'it returns false'. Refute it at one input. -/
def dateDaysWrong : ChangeSpec := { name := "dateDays", fn := fun _ => fun
  | [d1, d2, d3] => { results := [.lit (.bool false)], args := [d1, d2, d3] }
  | _ => none }
def DateDaysWrongFalsely : Prop := dateDaysRow.holds Tryd.pinned (OpenSpec.ofChange dateDaysWrong)

/-- 'pantrylaw02.DateOrder': WHATEVER THE INPUT: true; the input reads as it did. -/
def dateOrderSpec : ChangeSpec := { name := "dateOrder", fn := fun _ => fun
  | [d] => { results := [.lit (.bool true)], args := [d] }
  | _ => none }
def dateOrderRow : OpenClaim := { program := "ytjggelnpfeeabaadoor", sum := "0e50460012a6418f648832031b72a6a45aa0c252714ccee882688e7c3a004e4d", func := "pantry/pantrylaw02.DateOrder", spec := "dateOrder", named := ["pantry/date.weekdays", "pantry/date.months"], apart := false, laid := [("pantry/date.weekdays", laid_pantry_date_weekdays), ("pantry/date.months", laid_pantry_date_months)] }
def DateOrderSaid : Prop := dateOrderRow.holds Tryd.pinned (OpenSpec.ofChange dateOrderSpec)

/-- ITS FALSE NEIGHBOUR: 'it returns false'. Refute it at one input. -/
def dateOrderWrong : ChangeSpec := { name := "dateOrder", fn := fun _ => fun
  | [d] => { results := [.lit (.bool false)], args := [d] }
  | _ => none }
def DateOrderWrongFalsely : Prop := dateOrderRow.holds Tryd.pinned (OpenSpec.ofChange dateOrderWrong)

/-- 'pantrylaw02.DateWeek': WHATEVER THE INPUT: true; the input reads as it did. -/
def dateWeekSpec : ChangeSpec := { name := "dateWeek", fn := fun _ => fun
  | [d] => { results := [.lit (.bool true)], args := [d] }
  | _ => none }
def dateWeekRow : OpenClaim := { program := "ytjggelnpfeeabaadoor", sum := "0e50460012a6418f648832031b72a6a45aa0c252714ccee882688e7c3a004e4d", func := "pantry/pantrylaw02.DateWeek", spec := "dateWeek", named := ["pantry/date.weekdays", "pantry/date.months"], apart := false, laid := [("pantry/date.weekdays", laid_pantry_date_weekdays), ("pantry/date.months", laid_pantry_date_months)] }
def DateWeekSaid : Prop := dateWeekRow.holds Tryd.pinned (OpenSpec.ofChange dateWeekSpec)

/-- ITS FALSE NEIGHBOUR: 'it returns false'. Refute it at one input. -/
def dateWeekWrong : ChangeSpec := { name := "dateWeek", fn := fun _ => fun
  | [d] => { results := [.lit (.bool false)], args := [d] }
  | _ => none }
def DateWeekWrongFalsely : Prop := dateWeekRow.holds Tryd.pinned (OpenSpec.ofChange dateWeekWrong)

/-- 'pantrylaw02.DateCuts': WHATEVER THE INPUT: true; the input reads as it did. -/
def dateCutsSpec : ChangeSpec := { name := "dateCuts", fn := fun _ => fun
  | [d1, d2, d3] => { results := [.lit (.bool true)], args := [d1, d2, d3] }
  | _ => none }
def dateCutsRow : OpenClaim := { program := "ytjggelnpfeeabaadoor", sum := "0e50460012a6418f648832031b72a6a45aa0c252714ccee882688e7c3a004e4d", func := "pantry/pantrylaw02.DateCuts", spec := "dateCuts", named := ["pantry/date.weekdays", "pantry/date.months"], apart := false, laid := [("pantry/date.weekdays", laid_pantry_date_weekdays), ("pantry/date.months", laid_pantry_date_months)] }
def DateCutsSaid : Prop := dateCutsRow.holds Tryd.pinned (OpenSpec.ofChange dateCutsSpec)

/-- ITS FALSE NEIGHBOUR: 'it returns false'. Refute it at one input. -/
def dateCutsWrong : ChangeSpec := { name := "dateCuts", fn := fun _ => fun
  | [d1, d2, d3] => { results := [.lit (.bool false)], args := [d1, d2, d3] }
  | _ => none }
def DateCutsWrongFalsely : Prop := dateCutsRow.holds Tryd.pinned (OpenSpec.ofChange dateCutsWrong)

/- THE SECOND FORM. 'bulk': how many values and letters a reading holds, each counted each time it is reached (what is shared counts as often as it is met; a slice's spare places count too). A statement '..UptoSaid' is the law's where the arguments, and the package variables that the reading takes, are together of bulk at most 1048576: NARROWER than '..Said'. Prove '..Said' where nothing that the law and all that it calls make is longer than what came in: it says more and counts as full. Else prove '..UptoSaid'. A law counts once. -/
mutual
def uptoBulk {H : Type} : DataW H → Nat
  | .lit (.string bytes) => bytes.length + 1
  | .lit _ => 1
  | .nil => 1
  | .ptr d => uptoBulk d + 1
  | .slice elems spare => uptoBulkAll elems + uptoBulkAll spare + 1
  | .agg parts => uptoBulkAll parts + 1
  | .iface _ d => uptoBulk d + 1
  | .map entries => uptoBulkEntries entries + 1
  | .held _ => 1
def uptoBulkAll {H : Type} : List (DataW H) → Nat
  | [] => 0
  | d :: r => uptoBulk d + uptoBulkAll r
def uptoBulkEntries {H : Type} : List (Lit × DataW H) → Nat
  | [] => 0
  | x :: r => uptoBulkEntry x + uptoBulkEntries r
def uptoBulkEntry {H : Type} : Lit × DataW H → Nat
  | (.string bytes, d) => bytes.length + uptoBulk d + 1
  | (_, d) => uptoBulk d + 1
 end
def uptoSmall : (H : Type) → List (DataW H) → Bool := fun _ ds => decide (uptoBulkAll ds ≤ 1048576)
def OpenSpec.upto (s : _root_.Go.ChangeSpec) : _root_.Go.OpenSpec := { _root_.Go.OpenSpec.ofChange s with cond := some uptoSmall }

/-- 'pantrylaw02.DateShows', WHERE WHAT IT READS IS OF BULK AT MOST 1048576: true; the input reads as it did. -/
def dateShowsUptoRow : OpenClaim := { program := "ytjggelnpfeeabaadoor", sum := "0e50460012a6418f648832031b72a6a45aa0c252714ccee882688e7c3a004e4d", func := "pantry/pantrylaw02.DateShows", spec := "dateShows", named := ["pantry/date.weekdays", "pantry/date.months"], apart := false, laid := [("pantry/date.weekdays", laid_pantry_date_weekdays), ("pantry/date.months", laid_pantry_date_months)], narrowed := true }
def DateShowsUptoSaid : Prop := dateShowsUptoRow.holds Tryd.pinned (OpenSpec.upto dateShowsSpec)

/-- 'pantrylaw02.DateBack', WHERE WHAT IT READS IS OF BULK AT MOST 1048576: true; the input reads as it did. -/
def dateBackUptoRow : OpenClaim := { program := "ytjggelnpfeeabaadoor", sum := "0e50460012a6418f648832031b72a6a45aa0c252714ccee882688e7c3a004e4d", func := "pantry/pantrylaw02.DateBack", spec := "dateBack", named := ["pantry/date.weekdays", "pantry/date.months"], apart := false, laid := [("pantry/date.weekdays", laid_pantry_date_weekdays), ("pantry/date.months", laid_pantry_date_months)], narrowed := true }
def DateBackUptoSaid : Prop := dateBackUptoRow.holds Tryd.pinned (OpenSpec.upto dateBackSpec)

/-- 'pantrylaw02.DateReads', WHERE WHAT IT READS IS OF BULK AT MOST 1048576: true; the input reads as it did. -/
def dateReadsUptoRow : OpenClaim := { program := "ytjggelnpfeeabaadoor", sum := "0e50460012a6418f648832031b72a6a45aa0c252714ccee882688e7c3a004e4d", func := "pantry/pantrylaw02.DateReads", spec := "dateReads", named := ["pantry/date.weekdays", "pantry/date.months"], apart := false, laid := [("pantry/date.weekdays", laid_pantry_date_weekdays), ("pantry/date.months", laid_pantry_date_months)], narrowed := true }
def DateReadsUptoSaid : Prop := dateReadsUptoRow.holds Tryd.pinned (OpenSpec.upto dateReadsSpec)

/-- 'pantrylaw02.DateDays', WHERE WHAT IT READS IS OF BULK AT MOST 1048576: true; the input reads as it did. -/
def dateDaysUptoRow : OpenClaim := { program := "ytjggelnpfeeabaadoor", sum := "0e50460012a6418f648832031b72a6a45aa0c252714ccee882688e7c3a004e4d", func := "pantry/pantrylaw02.DateDays", spec := "dateDays", named := ["pantry/date.weekdays", "pantry/date.months"], apart := false, laid := [("pantry/date.weekdays", laid_pantry_date_weekdays), ("pantry/date.months", laid_pantry_date_months)], narrowed := true }
def DateDaysUptoSaid : Prop := dateDaysUptoRow.holds Tryd.pinned (OpenSpec.upto dateDaysSpec)

/-- 'pantrylaw02.DateOrder', WHERE WHAT IT READS IS OF BULK AT MOST 1048576: true; the input reads as it did. -/
def dateOrderUptoRow : OpenClaim := { program := "ytjggelnpfeeabaadoor", sum := "0e50460012a6418f648832031b72a6a45aa0c252714ccee882688e7c3a004e4d", func := "pantry/pantrylaw02.DateOrder", spec := "dateOrder", named := ["pantry/date.weekdays", "pantry/date.months"], apart := false, laid := [("pantry/date.weekdays", laid_pantry_date_weekdays), ("pantry/date.months", laid_pantry_date_months)], narrowed := true }
def DateOrderUptoSaid : Prop := dateOrderUptoRow.holds Tryd.pinned (OpenSpec.upto dateOrderSpec)

/-- 'pantrylaw02.DateWeek', WHERE WHAT IT READS IS OF BULK AT MOST 1048576: true; the input reads as it did. -/
def dateWeekUptoRow : OpenClaim := { program := "ytjggelnpfeeabaadoor", sum := "0e50460012a6418f648832031b72a6a45aa0c252714ccee882688e7c3a004e4d", func := "pantry/pantrylaw02.DateWeek", spec := "dateWeek", named := ["pantry/date.weekdays", "pantry/date.months"], apart := false, laid := [("pantry/date.weekdays", laid_pantry_date_weekdays), ("pantry/date.months", laid_pantry_date_months)], narrowed := true }
def DateWeekUptoSaid : Prop := dateWeekUptoRow.holds Tryd.pinned (OpenSpec.upto dateWeekSpec)

/-- 'pantrylaw02.DateCuts', WHERE WHAT IT READS IS OF BULK AT MOST 1048576: true; the input reads as it did. -/
def dateCutsUptoRow : OpenClaim := { program := "ytjggelnpfeeabaadoor", sum := "0e50460012a6418f648832031b72a6a45aa0c252714ccee882688e7c3a004e4d", func := "pantry/pantrylaw02.DateCuts", spec := "dateCuts", named := ["pantry/date.weekdays", "pantry/date.months"], apart := false, laid := [("pantry/date.weekdays", laid_pantry_date_weekdays), ("pantry/date.months", laid_pantry_date_months)], narrowed := true }
def DateCutsUptoSaid : Prop := dateCutsUptoRow.holds Tryd.pinned (OpenSpec.upto dateCutsSpec)

end Rows
end Go.Proofs.YtjggelnpfeeabaaDoor
