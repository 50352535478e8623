/-
  DERIVED. GIVEN WITH THE SEED: THE CARDS: each row of YtjggelnpfeeabaaDoorRows.lean that lists a variable, with what it lists TIED to the program's text (the seventh form; the later family's looks); each row that meets fmt, with fmt's text TOLD by the authors' own Lean function (tested against real Go, not proved from fmt's source: count such statements apart). THE CARD IS WHAT COUNTS. Prove the row's statement (the work); the ties are given (YtjggelnpfeeabaaDoorTie.lean); close each card by the builder's one call (the guide's Derived/Test/ToyasCard.lean, 'card_holds'). Laid BY PROGRAM, IN A SANDBOX (cutbox-door.mjs). By AI agents, Wed Nov 11 2026. No macro, syntax, notation, axiom, sorry.
-/
import Derived.Test.YtjggelnpfeeabaaDoorRows
import GoSem.ClaimSeven
namespace Go.Proofs.YtjggelnpfeeabaaDoor
namespace Rows

/-- THE TIED CARD OF 'pantrylaw02.DateShows'. -/
def dateShowsCard : Claim7 := { stood := { row := dateShowsRow, standIns := [], harness := (true, "428015c7d41cf88b7a69f12f3a784a79f7c26aef4b03d3e74db3d979bbb67ef8"), looks := true }, kinds := [], alts := [], laidByText := true, laidKinds := [.data, .data], laidTests := true, laidLooks := .later }
def DateShowsCardSaid : Prop := Claim7.holds Tryd.pinned (.plain (OpenSpec.ofChange dateShowsSpec)) dateShowsCard

/-- THE TIED CARD OF 'pantrylaw02.DateBack'. -/
def dateBackCard : Claim7 := { stood := { row := dateBackRow, standIns := [], harness := (true, "428015c7d41cf88b7a69f12f3a784a79f7c26aef4b03d3e74db3d979bbb67ef8"), looks := true }, kinds := [], alts := [], laidByText := true, laidKinds := [.data, .data], laidTests := true, laidLooks := .later }
def DateBackCardSaid : Prop := Claim7.holds Tryd.pinned (.plain (OpenSpec.ofChange dateBackSpec)) dateBackCard

/-- THE TIED CARD OF 'pantrylaw02.DateReads'. -/
def dateReadsCard : Claim7 := { stood := { row := dateReadsRow, standIns := [], harness := (true, "428015c7d41cf88b7a69f12f3a784a79f7c26aef4b03d3e74db3d979bbb67ef8"), looks := true }, kinds := [], alts := [], laidByText := true, laidKinds := [.data, .data], laidTests := true, laidLooks := .later }
def DateReadsCardSaid : Prop := Claim7.holds Tryd.pinned (.plain (OpenSpec.ofChange dateReadsSpec)) dateReadsCard

/-- THE TIED CARD OF 'pantrylaw02.DateDays'. -/
def dateDaysCard : Claim7 := { stood := { row := dateDaysRow, standIns := [], harness := (true, "428015c7d41cf88b7a69f12f3a784a79f7c26aef4b03d3e74db3d979bbb67ef8"), looks := true }, kinds := [], alts := [], laidByText := true, laidKinds := [.data, .data], laidTests := true, laidLooks := .later }
def DateDaysCardSaid : Prop := Claim7.holds Tryd.pinned (.plain (OpenSpec.ofChange dateDaysSpec)) dateDaysCard

/-- THE TIED CARD OF 'pantrylaw02.DateOrder'. -/
def dateOrderCard : Claim7 := { stood := { row := dateOrderRow, standIns := [], harness := (true, "428015c7d41cf88b7a69f12f3a784a79f7c26aef4b03d3e74db3d979bbb67ef8"), looks := true }, kinds := [], alts := [], laidByText := true, laidKinds := [.data, .data], laidTests := true, laidLooks := .later }
def DateOrderCardSaid : Prop := Claim7.holds Tryd.pinned (.plain (OpenSpec.ofChange dateOrderSpec)) dateOrderCard

/-- THE TIED CARD OF 'pantrylaw02.DateWeek'. -/
def dateWeekCard : Claim7 := { stood := { row := dateWeekRow, standIns := [], harness := (true, "428015c7d41cf88b7a69f12f3a784a79f7c26aef4b03d3e74db3d979bbb67ef8"), looks := true }, kinds := [], alts := [], laidByText := true, laidKinds := [.data, .data], laidTests := true, laidLooks := .later }
def DateWeekCardSaid : Prop := Claim7.holds Tryd.pinned (.plain (OpenSpec.ofChange dateWeekSpec)) dateWeekCard

/-- THE TIED CARD OF 'pantrylaw02.DateCuts'. -/
def dateCutsCard : Claim7 := { stood := { row := dateCutsRow, standIns := [], harness := (true, "428015c7d41cf88b7a69f12f3a784a79f7c26aef4b03d3e74db3d979bbb67ef8"), looks := true }, kinds := [], alts := [], laidByText := true, laidKinds := [.data, .data], laidTests := true, laidLooks := .later }
def DateCutsCardSaid : Prop := Claim7.holds Tryd.pinned (.plain (OpenSpec.ofChange dateCutsSpec)) dateCutsCard

/-- THE SECOND FORM's CARD OF 'pantrylaw02.DateShows'. -/
def dateShowsUptoCard : Claim7 := { stood := { row := dateShowsUptoRow, standIns := [], harness := (true, "428015c7d41cf88b7a69f12f3a784a79f7c26aef4b03d3e74db3d979bbb67ef8"), looks := true }, kinds := [], alts := [], laidByText := true, laidKinds := [.data, .data], laidTests := true, laidLooks := .later }
def DateShowsUptoCardSaid : Prop := Claim7.holds Tryd.pinned (.plain (OpenSpec.upto dateShowsSpec)) dateShowsUptoCard

/-- THE SECOND FORM's CARD OF 'pantrylaw02.DateBack'. -/
def dateBackUptoCard : Claim7 := { stood := { row := dateBackUptoRow, standIns := [], harness := (true, "428015c7d41cf88b7a69f12f3a784a79f7c26aef4b03d3e74db3d979bbb67ef8"), looks := true }, kinds := [], alts := [], laidByText := true, laidKinds := [.data, .data], laidTests := true, laidLooks := .later }
def DateBackUptoCardSaid : Prop := Claim7.holds Tryd.pinned (.plain (OpenSpec.upto dateBackSpec)) dateBackUptoCard

/-- THE SECOND FORM's CARD OF 'pantrylaw02.DateReads'. -/
def dateReadsUptoCard : Claim7 := { stood := { row := dateReadsUptoRow, standIns := [], harness := (true, "428015c7d41cf88b7a69f12f3a784a79f7c26aef4b03d3e74db3d979bbb67ef8"), looks := true }, kinds := [], alts := [], laidByText := true, laidKinds := [.data, .data], laidTests := true, laidLooks := .later }
def DateReadsUptoCardSaid : Prop := Claim7.holds Tryd.pinned (.plain (OpenSpec.upto dateReadsSpec)) dateReadsUptoCard

/-- THE SECOND FORM's CARD OF 'pantrylaw02.DateDays'. -/
def dateDaysUptoCard : Claim7 := { stood := { row := dateDaysUptoRow, standIns := [], harness := (true, "428015c7d41cf88b7a69f12f3a784a79f7c26aef4b03d3e74db3d979bbb67ef8"), looks := true }, kinds := [], alts := [], laidByText := true, laidKinds := [.data, .data], laidTests := true, laidLooks := .later }
def DateDaysUptoCardSaid : Prop := Claim7.holds Tryd.pinned (.plain (OpenSpec.upto dateDaysSpec)) dateDaysUptoCard

/-- THE SECOND FORM's CARD OF 'pantrylaw02.DateOrder'. -/
def dateOrderUptoCard : Claim7 := { stood := { row := dateOrderUptoRow, standIns := [], harness := (true, "428015c7d41cf88b7a69f12f3a784a79f7c26aef4b03d3e74db3d979bbb67ef8"), looks := true }, kinds := [], alts := [], laidByText := true, laidKinds := [.data, .data], laidTests := true, laidLooks := .later }
def DateOrderUptoCardSaid : Prop := Claim7.holds Tryd.pinned (.plain (OpenSpec.upto dateOrderSpec)) dateOrderUptoCard

/-- THE SECOND FORM's CARD OF 'pantrylaw02.DateWeek'. -/
def dateWeekUptoCard : Claim7 := { stood := { row := dateWeekUptoRow, standIns := [], harness := (true, "428015c7d41cf88b7a69f12f3a784a79f7c26aef4b03d3e74db3d979bbb67ef8"), looks := true }, kinds := [], alts := [], laidByText := true, laidKinds := [.data, .data], laidTests := true, laidLooks := .later }
def DateWeekUptoCardSaid : Prop := Claim7.holds Tryd.pinned (.plain (OpenSpec.upto dateWeekSpec)) dateWeekUptoCard

/-- THE SECOND FORM's CARD OF 'pantrylaw02.DateCuts'. -/
def dateCutsUptoCard : Claim7 := { stood := { row := dateCutsUptoRow, standIns := [], harness := (true, "428015c7d41cf88b7a69f12f3a784a79f7c26aef4b03d3e74db3d979bbb67ef8"), looks := true }, kinds := [], alts := [], laidByText := true, laidKinds := [.data, .data], laidTests := true, laidLooks := .later }
def DateCutsUptoCardSaid : Prop := Claim7.holds Tryd.pinned (.plain (OpenSpec.upto dateCutsSpec)) dateCutsUptoCard
end Rows
end Go.Proofs.YtjggelnpfeeabaaDoor
