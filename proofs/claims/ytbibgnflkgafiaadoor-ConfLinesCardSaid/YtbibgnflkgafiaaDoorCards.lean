/-
  DERIVED. GIVEN WITH THE SEED: THE CARDS: each row of YtbibgnflkgafiaaDoorRows.lean that lists a variable, with what it lists TIED to the program's text (the seventh form; the later family's looks); each row that meets fmt, with fmt's text TOLD by the authors' own Lean function (tested against real Go, not proved from fmt's source: count such statements apart). THE CARD IS WHAT COUNTS. Prove the row's statement (the work); the ties are given (YtbibgnflkgafiaaDoorTie.lean); close each card by the builder's one call (the guide's Derived/Test/ToyasCard.lean, 'card_holds'). Laid BY PROGRAM, IN A SANDBOX (cutbox-door.mjs). By AI agents, Wed Nov 11 2026. No macro, syntax, notation, axiom, sorry.
-/
import Derived.Test.YtbibgnflkgafiaaDoorRows
import GoSem.ClaimSeven
namespace Go.Proofs.YtbibgnflkgafiaaDoor
namespace Rows

/-- THE TIED CARD OF 'pantrylaw09.ConfPlain'. -/
def confPlainCard : Claim7 := { stood := { row := confPlainRow, standIns := [], harness := (true, "f05342680316a4738d8b7d11ea9eec56008d24708e9f5807111bb7485ed1e3be"), looks := true }, kinds := [], alts := [], laidByText := true, laidKinds := [.data, .data, .data, .data, .sentinel, .sentinel, .pinned], laidTests := true, laidLooks := .later }
def ConfPlainCardSaid : Prop := Claim7.holds Tryd.pinned (.plain (OpenSpec.ofChange confPlainSpec)) confPlainCard

/-- THE TIED CARD OF 'pantrylaw09.ConfLines'. -/
def confLinesCard : Claim7 := { stood := { row := confLinesRow, standIns := [], harness := (true, "f05342680316a4738d8b7d11ea9eec56008d24708e9f5807111bb7485ed1e3be"), looks := true }, kinds := [], alts := [], laidByText := true, laidKinds := [.data, .data, .data, .data, .sentinel, .sentinel, .pinned], laidTests := true, laidLooks := .later }
def ConfLinesCardSaid : Prop := Claim7.holds Tryd.pinned (.plain (OpenSpec.ofChange confLinesSpec)) confLinesCard

/-- THE SECOND FORM's CARD OF 'pantrylaw09.ConfPlain'. -/
def confPlainUptoCard : Claim7 := { stood := { row := confPlainUptoRow, standIns := [], harness := (true, "f05342680316a4738d8b7d11ea9eec56008d24708e9f5807111bb7485ed1e3be"), looks := true }, kinds := [], alts := [], laidByText := true, laidKinds := [.data, .data, .data, .data, .sentinel, .sentinel, .pinned], laidTests := true, laidLooks := .later }
def ConfPlainUptoCardSaid : Prop := Claim7.holds Tryd.pinned (.plain (OpenSpec.upto confPlainSpec)) confPlainUptoCard

/-- THE SECOND FORM's CARD OF 'pantrylaw09.ConfLines'. -/
def confLinesUptoCard : Claim7 := { stood := { row := confLinesUptoRow, standIns := [], harness := (true, "f05342680316a4738d8b7d11ea9eec56008d24708e9f5807111bb7485ed1e3be"), looks := true }, kinds := [], alts := [], laidByText := true, laidKinds := [.data, .data, .data, .data, .sentinel, .sentinel, .pinned], laidTests := true, laidLooks := .later }
def ConfLinesUptoCardSaid : Prop := Claim7.holds Tryd.pinned (.plain (OpenSpec.upto confLinesSpec)) confLinesUptoCard
end Rows
end Go.Proofs.YtbibgnflkgafiaaDoor
