/-
  DERIVED. GIVEN WITH THE SEED: THE CARDS: each row of YthokpbpnecdgpaaDoorRows.lean that lists a variable, with what it lists TIED to the program's text (the seventh form; the later family's looks); each row that meets fmt, with fmt's text TOLD by the authors' own Lean function (tested against real Go, not proved from fmt's source: count such statements apart). THE CARD IS WHAT COUNTS. Prove the row's statement (the work); the ties are given (YthokpbpnecdgpaaDoorTie.lean); close each card by the builder's one call (the guide's Derived/Test/ToyasCard.lean, 'card_holds'). Laid BY PROGRAM, IN A SANDBOX (cutbox-door.mjs). By AI agents, Wed Nov 11 2026. No macro, syntax, notation, axiom, sorry.
-/
import Derived.Test.YthokpbpnecdgpaaDoorRows
import GoSem.ClaimSeven
namespace Go.Proofs.YthokpbpnecdgpaaDoor
namespace Rows

/-- THE TIED CARD OF 'pantrylaw08.PlaceBack'. -/
def placeBackCard : Claim7 := { stood := { row := placeBackRow, standIns := [], harness := (true, "e304921934993c71d184accad22e0bf7f0ba84823bc85a41a97a55fa85df5e01"), looks := true }, kinds := [], alts := [], laidByText := true, laidKinds := [.data, .data, .data, .data, .sentinel, .sentinel, .pinned, .pinned], laidTests := true, laidLooks := .later }
def PlaceBackCardSaid : Prop := Claim7.holds Tryd.pinned (.plain (OpenSpec.ofChange placeBackSpec)) placeBackCard

/-- THE TIED CARD OF 'pantrylaw08.PlaceDots'. -/
def placeDotsCard : Claim7 := { stood := { row := placeDotsRow, standIns := [], harness := (true, "e304921934993c71d184accad22e0bf7f0ba84823bc85a41a97a55fa85df5e01"), looks := true }, kinds := [], alts := [], laidByText := true, laidKinds := [.data, .data, .data, .data, .sentinel, .sentinel, .pinned, .pinned], laidTests := true, laidLooks := .later }
def PlaceDotsCardSaid : Prop := Claim7.holds Tryd.pinned (.plain (OpenSpec.ofChange placeDotsSpec)) placeDotsCard

/-- THE TIED CARD OF 'pantrylaw08.PlaceEscapes'. -/
def placeEscapesCard : Claim7 := { stood := { row := placeEscapesRow, standIns := [], harness := (true, "e304921934993c71d184accad22e0bf7f0ba84823bc85a41a97a55fa85df5e01"), looks := true }, kinds := [], alts := [], laidByText := true, laidKinds := [.data, .data, .data, .data, .sentinel, .sentinel, .pinned, .pinned], laidTests := true, laidLooks := .later }
def PlaceEscapesCardSaid : Prop := Claim7.holds Tryd.pinned (.plain (OpenSpec.ofChange placeEscapesSpec)) placeEscapesCard

/-- THE TIED CARD OF 'pantrylaw08.PlacePorts'. -/
def placePortsCard : Claim7 := { stood := { row := placePortsRow, standIns := [], harness := (true, "e304921934993c71d184accad22e0bf7f0ba84823bc85a41a97a55fa85df5e01"), looks := true }, kinds := [], alts := [], laidByText := true, laidKinds := [.data, .data, .data, .data, .sentinel, .sentinel, .pinned, .pinned], laidTests := true, laidLooks := .later }
def PlacePortsCardSaid : Prop := Claim7.holds Tryd.pinned (.plain (OpenSpec.ofChange placePortsSpec)) placePortsCard

/-- THE TIED CARD OF 'pantrylaw08.PlacePlain'. -/
def placePlainCard : Claim7 := { stood := { row := placePlainRow, standIns := [], harness := (true, "e304921934993c71d184accad22e0bf7f0ba84823bc85a41a97a55fa85df5e01"), looks := true }, kinds := [], alts := [], laidByText := true, laidKinds := [.data, .data, .data, .data, .sentinel, .sentinel, .pinned, .pinned], laidTests := true, laidLooks := .later }
def PlacePlainCardSaid : Prop := Claim7.holds Tryd.pinned (.plain (OpenSpec.ofChange placePlainSpec)) placePlainCard

/-- THE TIED CARD OF 'pantrylaw08.PlaceHosts'. -/
def placeHostsCard : Claim7 := { stood := { row := placeHostsRow, standIns := [], harness := (true, "e304921934993c71d184accad22e0bf7f0ba84823bc85a41a97a55fa85df5e01"), looks := true }, kinds := [], alts := [], laidByText := true, laidKinds := [.data, .data, .data, .data, .sentinel, .sentinel, .pinned, .pinned], laidTests := true, laidLooks := .later }
def PlaceHostsCardSaid : Prop := Claim7.holds Tryd.pinned (.plain (OpenSpec.ofChange placeHostsSpec)) placeHostsCard

/-- THE SECOND FORM's CARD OF 'pantrylaw08.PlaceBack'. -/
def placeBackUptoCard : Claim7 := { stood := { row := placeBackUptoRow, standIns := [], harness := (true, "e304921934993c71d184accad22e0bf7f0ba84823bc85a41a97a55fa85df5e01"), looks := true }, kinds := [], alts := [], laidByText := true, laidKinds := [.data, .data, .data, .data, .sentinel, .sentinel, .pinned, .pinned], laidTests := true, laidLooks := .later }
def PlaceBackUptoCardSaid : Prop := Claim7.holds Tryd.pinned (.plain (OpenSpec.upto placeBackSpec)) placeBackUptoCard

/-- THE SECOND FORM's CARD OF 'pantrylaw08.PlaceDots'. -/
def placeDotsUptoCard : Claim7 := { stood := { row := placeDotsUptoRow, standIns := [], harness := (true, "e304921934993c71d184accad22e0bf7f0ba84823bc85a41a97a55fa85df5e01"), looks := true }, kinds := [], alts := [], laidByText := true, laidKinds := [.data, .data, .data, .data, .sentinel, .sentinel, .pinned, .pinned], laidTests := true, laidLooks := .later }
def PlaceDotsUptoCardSaid : Prop := Claim7.holds Tryd.pinned (.plain (OpenSpec.upto placeDotsSpec)) placeDotsUptoCard

/-- THE SECOND FORM's CARD OF 'pantrylaw08.PlaceEscapes'. -/
def placeEscapesUptoCard : Claim7 := { stood := { row := placeEscapesUptoRow, standIns := [], harness := (true, "e304921934993c71d184accad22e0bf7f0ba84823bc85a41a97a55fa85df5e01"), looks := true }, kinds := [], alts := [], laidByText := true, laidKinds := [.data, .data, .data, .data, .sentinel, .sentinel, .pinned, .pinned], laidTests := true, laidLooks := .later }
def PlaceEscapesUptoCardSaid : Prop := Claim7.holds Tryd.pinned (.plain (OpenSpec.upto placeEscapesSpec)) placeEscapesUptoCard

/-- THE SECOND FORM's CARD OF 'pantrylaw08.PlacePorts'. -/
def placePortsUptoCard : Claim7 := { stood := { row := placePortsUptoRow, standIns := [], harness := (true, "e304921934993c71d184accad22e0bf7f0ba84823bc85a41a97a55fa85df5e01"), looks := true }, kinds := [], alts := [], laidByText := true, laidKinds := [.data, .data, .data, .data, .sentinel, .sentinel, .pinned, .pinned], laidTests := true, laidLooks := .later }
def PlacePortsUptoCardSaid : Prop := Claim7.holds Tryd.pinned (.plain (OpenSpec.upto placePortsSpec)) placePortsUptoCard

/-- THE SECOND FORM's CARD OF 'pantrylaw08.PlacePlain'. -/
def placePlainUptoCard : Claim7 := { stood := { row := placePlainUptoRow, standIns := [], harness := (true, "e304921934993c71d184accad22e0bf7f0ba84823bc85a41a97a55fa85df5e01"), looks := true }, kinds := [], alts := [], laidByText := true, laidKinds := [.data, .data, .data, .data, .sentinel, .sentinel, .pinned, .pinned], laidTests := true, laidLooks := .later }
def PlacePlainUptoCardSaid : Prop := Claim7.holds Tryd.pinned (.plain (OpenSpec.upto placePlainSpec)) placePlainUptoCard

/-- THE SECOND FORM's CARD OF 'pantrylaw08.PlaceHosts'. -/
def placeHostsUptoCard : Claim7 := { stood := { row := placeHostsUptoRow, standIns := [], harness := (true, "e304921934993c71d184accad22e0bf7f0ba84823bc85a41a97a55fa85df5e01"), looks := true }, kinds := [], alts := [], laidByText := true, laidKinds := [.data, .data, .data, .data, .sentinel, .sentinel, .pinned, .pinned], laidTests := true, laidLooks := .later }
def PlaceHostsUptoCardSaid : Prop := Claim7.holds Tryd.pinned (.plain (OpenSpec.upto placeHostsSpec)) placeHostsUptoCard
end Rows
end Go.Proofs.YthokpbpnecdgpaaDoor
