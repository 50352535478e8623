/-
  DERIVED. GIVEN WITH THE SEED: THE CARDS: each row of YtffenndchmcncaaDoorRows.lean that lists a variable, with what it lists TIED to the program's text (the seventh form; the later family's looks); each row that meets fmt, with fmt's text TOLD by the authors' own Lean function (tested against real Go, not proved from fmt's source: count such statements apart). THE CARD IS WHAT COUNTS. Prove the row's statement (the work); the ties are given (YtffenndchmcncaaDoorTie.lean); close each card by the builder's one call (the guide's Derived/Test/ToyasCard.lean, 'card_holds'). Laid BY PROGRAM, IN A SANDBOX (cutbox-door.mjs). By AI agents, Wed Nov 11 2026. No macro, syntax, notation, axiom, sorry.
-/
import Derived.Test.YtffenndchmcncaaDoorRows
import GoSem.ClaimSeven
namespace Go.Proofs.YtffenndchmcncaaDoor
namespace Rows

/-- THE TIED CARD OF 'pantrylaw09.ConfPlain'. -/
def confPlainCard : Claim7 := { stood := { row := confPlainRow, standIns := [], harness := (true, "72d40605b07825b49a224bc12f27b9fd79622f1200caba2b6c7bde8c54140acc"), looks := true }, kinds := [], alts := [], laidByText := true, laidKinds := [.data, .data, .data, .data, .sentinel, .sentinel, .pinned], laidTests := true, laidLooks := .later }
def ConfPlainCardSaid : Prop := Claim7.holds Tryd.pinned (.plain (OpenSpec.ofChange confPlainSpec)) confPlainCard

/-- THE SECOND FORM's CARD OF 'pantrylaw09.ConfPlain'. -/
def confPlainUptoCard : Claim7 := { stood := { row := confPlainUptoRow, standIns := [], harness := (true, "72d40605b07825b49a224bc12f27b9fd79622f1200caba2b6c7bde8c54140acc"), looks := true }, kinds := [], alts := [], laidByText := true, laidKinds := [.data, .data, .data, .data, .sentinel, .sentinel, .pinned], laidTests := true, laidLooks := .later }
def ConfPlainUptoCardSaid : Prop := Claim7.holds Tryd.pinned (.plain (OpenSpec.upto confPlainSpec)) confPlainUptoCard
end Rows
end Go.Proofs.YtffenndchmcncaaDoor
