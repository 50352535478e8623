/-
  DERIVED. GIVEN WITH THE SEED: THE CARDS: each row of YthokpbpnecdgpaaGreatDoorRows.lean that lists a variable, with what it lists TIED to the program's text (the seventh form; the later family's looks); each row that meets fmt, with fmt's text TOLD by the authors' own Lean function (tested against real Go, not proved from fmt's source: count such statements apart). THE CARD IS WHAT COUNTS. Prove the row's statement (the work); the ties are given (YthokpbpnecdgpaaGreatDoorTie.lean); close each card by the builder's one call (the guide's Derived/Test/ToyasCard.lean, 'card_holds'). Laid BY PROGRAM, IN A SANDBOX (cutbox-door.mjs). By AI agents, Wed Nov 11 2026. No macro, syntax, notation, axiom, sorry.
-/
import Derived.Test.YthokpbpnecdgpaaGreatDoorRows
import GoSem.ClaimSeven
namespace Go.Proofs.YthokpbpnecdgpaaGreatDoor
namespace Rows

/-- THE TIED CARD OF 'pantrylaw08.PlaceReads'. -/
def placeReadsCard : Claim7 := { stood := { row := placeReadsRow, standIns := [], harness := (true, "e87a31f54681f17e0f70bbabc60228ad6da56eee27803076ef415da88b6f91f1"), looks := true }, kinds := [], alts := [], laidByText := true, laidKinds := [.data, .data, .data, .data, .sentinel, .sentinel, .pinned, .pinned], laidTests := true, laidLooks := .later }
def PlaceReadsCardSaid : Prop := Claim7.holds Tryz.pinned (.plain (OpenSpec.ofChange placeReadsSpec)) placeReadsCard

/-- THE SECOND FORM's CARD OF 'pantrylaw08.PlaceReads'. -/
def placeReadsUptoCard : Claim7 := { stood := { row := placeReadsUptoRow, standIns := [], harness := (true, "e87a31f54681f17e0f70bbabc60228ad6da56eee27803076ef415da88b6f91f1"), looks := true }, kinds := [], alts := [], laidByText := true, laidKinds := [.data, .data, .data, .data, .sentinel, .sentinel, .pinned, .pinned], laidTests := true, laidLooks := .later }
def PlaceReadsUptoCardSaid : Prop := Claim7.holds Tryz.pinned (.plain (OpenSpec.upto placeReadsSpec)) placeReadsUptoCard
end Rows
end Go.Proofs.YthokpbpnecdgpaaGreatDoor
