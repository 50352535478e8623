/-
  DERIVED. GIVEN WITH THE SEED: THE CARDS: each row of YtjfkehdlamnigaaGreatDoorRows.lean that lists a variable, with what it lists TIED to the program's text (the seventh form; the later family's looks); each row that meets fmt, with fmt's text TOLD by the authors' own Lean function (tested against real Go, not proved from fmt's source: count such statements apart). THE CARD IS WHAT COUNTS. Prove the row's statement (the work); the ties are given (YtjfkehdlamnigaaGreatDoorTie.lean); close each card by the builder's one call (the guide's Derived/Test/ToyasCard.lean, 'card_holds'). Laid BY PROGRAM, IN A SANDBOX (cutbox-door.mjs). By AI agents, Wed Nov 11 2026. No macro, syntax, notation, axiom, sorry.
-/
import Derived.Test.YtjfkehdlamnigaaGreatDoorRows
import GoSem.ClaimSeven
namespace Go.Proofs.YtjfkehdlamnigaaGreatDoor
namespace Rows

/-- THE TIED CARD OF 'pantrylaw05.HeadResponses'. -/
def headResponsesCard : Claim7 := { stood := { row := headResponsesRow, standIns := [], harness := (true, "798dcf9bd485d1e8a1bbefe2b9c7f97ec9598dc7c393faa4d72efcdf6269a4a0"), looks := false }, kinds := [], alts := [], laidByText := true, laidKinds := [.data, .data, .data, .data, .pinned], laidTests := true, laidLooks := .later }
def HeadResponsesCardSaid : Prop := Claim7.holds Tryz.pinned (.plain (OpenSpec.ofChange headResponsesSpec)) headResponsesCard

/-- THE TIED CARD OF 'pantrylaw05.HeadReads'. -/
def headReadsCard : Claim7 := { stood := { row := headReadsRow, standIns := [], harness := (true, "798dcf9bd485d1e8a1bbefe2b9c7f97ec9598dc7c393faa4d72efcdf6269a4a0"), looks := false }, kinds := [], alts := [], laidByText := true, laidKinds := [.data, .pinned], laidTests := true, laidLooks := .later }
def HeadReadsCardSaid : Prop := Claim7.holds Tryz.pinned (.plain (OpenSpec.ofChange headReadsSpec)) headReadsCard

/-- THE SECOND FORM's CARD OF 'pantrylaw05.HeadResponses'. -/
def headResponsesUptoCard : Claim7 := { stood := { row := headResponsesUptoRow, standIns := [], harness := (true, "798dcf9bd485d1e8a1bbefe2b9c7f97ec9598dc7c393faa4d72efcdf6269a4a0"), looks := false }, kinds := [], alts := [], laidByText := true, laidKinds := [.data, .data, .data, .data, .pinned], laidTests := true, laidLooks := .later }
def HeadResponsesUptoCardSaid : Prop := Claim7.holds Tryz.pinned (.plain (OpenSpec.upto headResponsesSpec)) headResponsesUptoCard

/-- THE SECOND FORM's CARD OF 'pantrylaw05.HeadReads'. -/
def headReadsUptoCard : Claim7 := { stood := { row := headReadsUptoRow, standIns := [], harness := (true, "798dcf9bd485d1e8a1bbefe2b9c7f97ec9598dc7c393faa4d72efcdf6269a4a0"), looks := false }, kinds := [], alts := [], laidByText := true, laidKinds := [.data, .pinned], laidTests := true, laidLooks := .later }
def HeadReadsUptoCardSaid : Prop := Claim7.holds Tryz.pinned (.plain (OpenSpec.upto headReadsSpec)) headReadsUptoCard
end Rows
end Go.Proofs.YtjfkehdlamnigaaGreatDoor
