/-
  DERIVED. GIVEN WITH THE SEED: THE CARDS: each row of YtefplhkjcclppaaDoorRows.lean that lists a variable, with what it lists TIED to the program's text (the seventh form; the later family's looks); each row that meets fmt, with fmt's text TOLD by the authors' own Lean function (tested against real Go, not proved from fmt's source: count such statements apart). THE CARD IS WHAT COUNTS. Prove the row's statement (the work); the ties are given (YtefplhkjcclppaaDoorTie.lean); close each card by the builder's one call (the guide's Derived/Test/ToyasCard.lean, 'card_holds'). Laid BY PROGRAM, IN A SANDBOX (cutbox-door.mjs). By AI agents, Wed Nov 11 2026. No macro, syntax, notation, axiom, sorry.
-/
import Derived.Test.YtefplhkjcclppaaDoorRows
import GoSem.ClaimSeven
namespace Go.Proofs.YtefplhkjcclppaaDoor
namespace Rows

/-- THE TIED CARD OF 'pantrylaw06.BodySmuggles'. -/
def bodySmugglesCard : Claim7 := { stood := { row := bodySmugglesRow, standIns := [], harness := (true, "2811490c0e5ba2b0c28f6c5ce227e931ef837c5cc6315927839ee32a6e53ac57"), looks := false }, kinds := [], alts := [], laidByText := true, laidKinds := [.data, .data, .data, .data, .pinned], laidTests := true, laidLooks := .later }
def BodySmugglesCardSaid : Prop := Claim7.holds Tryd.pinned (.plain (OpenSpec.ofChange bodySmugglesSpec)) bodySmugglesCard

/-- THE SECOND FORM's CARD OF 'pantrylaw06.BodySmuggles'. -/
def bodySmugglesUptoCard : Claim7 := { stood := { row := bodySmugglesUptoRow, standIns := [], harness := (true, "2811490c0e5ba2b0c28f6c5ce227e931ef837c5cc6315927839ee32a6e53ac57"), looks := false }, kinds := [], alts := [], laidByText := true, laidKinds := [.data, .data, .data, .data, .pinned], laidTests := true, laidLooks := .later }
def BodySmugglesUptoCardSaid : Prop := Claim7.holds Tryd.pinned (.plain (OpenSpec.upto bodySmugglesSpec)) bodySmugglesUptoCard
end Rows
end Go.Proofs.YtefplhkjcclppaaDoor
