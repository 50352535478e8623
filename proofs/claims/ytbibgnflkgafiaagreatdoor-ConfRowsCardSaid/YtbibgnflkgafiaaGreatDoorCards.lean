/-
  DERIVED. GIVEN WITH THE SEED: THE CARDS: each row of YtbibgnflkgafiaaGreatDoorRows.lean that lists a variable, with what it lists TIED to the program's text (the seventh form; the later family's looks); each row that meets fmt, with fmt's text TOLD by the authors' own Lean function (tested against real Go, not proved from fmt's source: count such statements apart). THE CARD IS WHAT COUNTS. Prove the row's statement (the work); the ties are given (YtbibgnflkgafiaaGreatDoorTie.lean); close each card by the builder's one call (the guide's Derived/Test/ToyasCard.lean, 'card_holds'). Laid BY PROGRAM, IN A SANDBOX (cutbox-door.mjs). By AI agents, Wed Nov 11 2026. No macro, syntax, notation, axiom, sorry.
-/
import Derived.Test.YtbibgnflkgafiaaGreatDoorRows
import GoSem.ClaimSeven
namespace Go.Proofs.YtbibgnflkgafiaaGreatDoor
namespace Rows

/-- THE TIED CARD OF 'pantrylaw09.ConfReads'. -/
def confReadsCard : Claim7 := { stood := { row := confReadsRow, standIns := [], harness := (true, "8aba3219f6b4a2a46f19236e766ff7dfbc1146468faf1b9890ed0f10c9f51811"), looks := true }, kinds := [], alts := [], laidByText := true, laidKinds := [.data, .data, .data, .data, .sentinel, .sentinel, .pinned], laidTests := true, laidLooks := .later }
def ConfReadsCardSaid : Prop := Claim7.holds Tryz.pinned (.plain (OpenSpec.ofChange confReadsSpec)) confReadsCard

/-- THE TIED CARD OF 'pantrylaw09.ConfShows'. -/
def confShowsCard : Claim7 := { stood := { row := confShowsRow, standIns := [], harness := (true, "8aba3219f6b4a2a46f19236e766ff7dfbc1146468faf1b9890ed0f10c9f51811"), looks := true }, kinds := [], alts := [], laidByText := true, laidKinds := [.data, .data, .data, .data, .sentinel, .sentinel, .pinned], laidTests := true, laidLooks := .later }
def ConfShowsCardSaid : Prop := Claim7.holds Tryz.pinned (.plain (OpenSpec.ofChange confShowsSpec)) confShowsCard

/-- THE TIED CARD OF 'pantrylaw09.ConfFinds'. -/
def confFindsCard : Claim7 := { stood := { row := confFindsRow, standIns := [], harness := (true, "8aba3219f6b4a2a46f19236e766ff7dfbc1146468faf1b9890ed0f10c9f51811"), looks := true }, kinds := [], alts := [], laidByText := true, laidKinds := [.data, .data, .data, .data, .sentinel, .sentinel, .pinned], laidTests := true, laidLooks := .later }
def ConfFindsCardSaid : Prop := Claim7.holds Tryz.pinned (.plain (OpenSpec.ofChange confFindsSpec)) confFindsCard

/-- THE TIED CARD OF 'pantrylaw09.ConfBlanks'. -/
def confBlanksCard : Claim7 := { stood := { row := confBlanksRow, standIns := [], harness := (true, "8aba3219f6b4a2a46f19236e766ff7dfbc1146468faf1b9890ed0f10c9f51811"), looks := true }, kinds := [], alts := [], laidByText := true, laidKinds := [.data, .data, .data, .data, .sentinel, .sentinel, .pinned], laidTests := true, laidLooks := .later }
def ConfBlanksCardSaid : Prop := Claim7.holds Tryz.pinned (.plain (OpenSpec.ofChange confBlanksSpec)) confBlanksCard

/-- THE TIED CARD OF 'pantrylaw09.ConfRows'. -/
def confRowsCard : Claim7 := { stood := { row := confRowsRow, standIns := [], harness := (true, "8aba3219f6b4a2a46f19236e766ff7dfbc1146468faf1b9890ed0f10c9f51811"), looks := true }, kinds := [], alts := [], laidByText := true, laidKinds := [.data, .data, .data, .data, .sentinel, .sentinel, .pinned], laidTests := true, laidLooks := .later }
def ConfRowsCardSaid : Prop := Claim7.holds Tryz.pinned (.plain (OpenSpec.ofChange confRowsSpec)) confRowsCard

/-- THE SECOND FORM's CARD OF 'pantrylaw09.ConfReads'. -/
def confReadsUptoCard : Claim7 := { stood := { row := confReadsUptoRow, standIns := [], harness := (true, "8aba3219f6b4a2a46f19236e766ff7dfbc1146468faf1b9890ed0f10c9f51811"), looks := true }, kinds := [], alts := [], laidByText := true, laidKinds := [.data, .data, .data, .data, .sentinel, .sentinel, .pinned], laidTests := true, laidLooks := .later }
def ConfReadsUptoCardSaid : Prop := Claim7.holds Tryz.pinned (.plain (OpenSpec.upto confReadsSpec)) confReadsUptoCard

/-- THE SECOND FORM's CARD OF 'pantrylaw09.ConfShows'. -/
def confShowsUptoCard : Claim7 := { stood := { row := confShowsUptoRow, standIns := [], harness := (true, "8aba3219f6b4a2a46f19236e766ff7dfbc1146468faf1b9890ed0f10c9f51811"), looks := true }, kinds := [], alts := [], laidByText := true, laidKinds := [.data, .data, .data, .data, .sentinel, .sentinel, .pinned], laidTests := true, laidLooks := .later }
def ConfShowsUptoCardSaid : Prop := Claim7.holds Tryz.pinned (.plain (OpenSpec.upto confShowsSpec)) confShowsUptoCard

/-- THE SECOND FORM's CARD OF 'pantrylaw09.ConfFinds'. -/
def confFindsUptoCard : Claim7 := { stood := { row := confFindsUptoRow, standIns := [], harness := (true, "8aba3219f6b4a2a46f19236e766ff7dfbc1146468faf1b9890ed0f10c9f51811"), looks := true }, kinds := [], alts := [], laidByText := true, laidKinds := [.data, .data, .data, .data, .sentinel, .sentinel, .pinned], laidTests := true, laidLooks := .later }
def ConfFindsUptoCardSaid : Prop := Claim7.holds Tryz.pinned (.plain (OpenSpec.upto confFindsSpec)) confFindsUptoCard

/-- THE SECOND FORM's CARD OF 'pantrylaw09.ConfBlanks'. -/
def confBlanksUptoCard : Claim7 := { stood := { row := confBlanksUptoRow, standIns := [], harness := (true, "8aba3219f6b4a2a46f19236e766ff7dfbc1146468faf1b9890ed0f10c9f51811"), looks := true }, kinds := [], alts := [], laidByText := true, laidKinds := [.data, .data, .data, .data, .sentinel, .sentinel, .pinned], laidTests := true, laidLooks := .later }
def ConfBlanksUptoCardSaid : Prop := Claim7.holds Tryz.pinned (.plain (OpenSpec.upto confBlanksSpec)) confBlanksUptoCard

/-- THE SECOND FORM's CARD OF 'pantrylaw09.ConfRows'. -/
def confRowsUptoCard : Claim7 := { stood := { row := confRowsUptoRow, standIns := [], harness := (true, "8aba3219f6b4a2a46f19236e766ff7dfbc1146468faf1b9890ed0f10c9f51811"), looks := true }, kinds := [], alts := [], laidByText := true, laidKinds := [.data, .data, .data, .data, .sentinel, .sentinel, .pinned], laidTests := true, laidLooks := .later }
def ConfRowsUptoCardSaid : Prop := Claim7.holds Tryz.pinned (.plain (OpenSpec.upto confRowsSpec)) confRowsUptoCard
end Rows
end Go.Proofs.YtbibgnflkgafiaaGreatDoor
