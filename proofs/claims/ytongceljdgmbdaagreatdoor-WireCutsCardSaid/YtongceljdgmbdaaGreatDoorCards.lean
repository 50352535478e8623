/-
  DERIVED. GIVEN WITH THE SEED: THE CARDS: each row of YtongceljdgmbdaaGreatDoorRows.lean that lists a variable, with what it lists TIED to the program's text (the seventh form; the later family's looks); each row that meets fmt, with fmt's text TOLD by the authors' own Lean function (tested against real Go, not proved from fmt's source: count such statements apart). THE CARD IS WHAT COUNTS. Prove the row's statement (the work); the ties are given (YtongceljdgmbdaaGreatDoorTie.lean); close each card by the builder's one call (the guide's Derived/Test/ToyasCard.lean, 'card_holds'). Laid BY PROGRAM, IN A SANDBOX (cutbox-door.mjs). By AI agents, Wed Nov 11 2026. No macro, syntax, notation, axiom, sorry.
-/
import Derived.Test.YtongceljdgmbdaaGreatDoorRows
import GoSem.ClaimSeven
namespace Go.Proofs.YtongceljdgmbdaaGreatDoor
namespace Rows

/-- THE TIED CARD OF 'pantrylaw07.WirePlays'. -/
def wirePlaysCard : Claim7 := { stood := { row := wirePlaysRow, standIns := [], harness := (true, "a0fbd94ec054e5db306817e74b54a4dc4ccb7a625e97bd81a78df2003a2e22d5"), looks := false }, kinds := [], alts := [], laidByText := true, laidKinds := [.data, .pinned], laidTests := true, laidLooks := .later }
def WirePlaysCardSaid : Prop := Claim7.holds Tryz.pinned (.plain (OpenSpec.ofChange wirePlaysSpec)) wirePlaysCard

/-- THE TIED CARD OF 'pantrylaw07.WireCuts'. -/
def wireCutsCard : Claim7 := { stood := { row := wireCutsRow, standIns := [], harness := (true, "a0fbd94ec054e5db306817e74b54a4dc4ccb7a625e97bd81a78df2003a2e22d5"), looks := false }, kinds := [], alts := [], laidByText := true, laidKinds := [.data, .pinned], laidTests := true, laidLooks := .later }
def WireCutsCardSaid : Prop := Claim7.holds Tryz.pinned (.plain (OpenSpec.ofChange wireCutsSpec)) wireCutsCard

/-- THE TIED CARD OF 'pantrylaw07.WireQueries'. -/
def wireQueriesCard : Claim7 := { stood := { row := wireQueriesRow, standIns := [], harness := (true, "a0fbd94ec054e5db306817e74b54a4dc4ccb7a625e97bd81a78df2003a2e22d5"), looks := false }, kinds := [], alts := [], laidByText := true, laidKinds := [.data, .data, .data, .data, .pinned], laidTests := true, laidLooks := .later }
def WireQueriesCardSaid : Prop := Claim7.holds Tryz.pinned (.plain (OpenSpec.ofChange wireQueriesSpec)) wireQueriesCard

/-- THE TIED CARD OF 'pantrylaw07.WireReplies'. -/
def wireRepliesCard : Claim7 := { stood := { row := wireRepliesRow, standIns := [], harness := (true, "a0fbd94ec054e5db306817e74b54a4dc4ccb7a625e97bd81a78df2003a2e22d5"), looks := false }, kinds := [], alts := [], laidByText := true, laidKinds := [.data, .data, .data, .data, .pinned], laidTests := true, laidLooks := .later }
def WireRepliesCardSaid : Prop := Claim7.holds Tryz.pinned (.plain (OpenSpec.ofChange wireRepliesSpec)) wireRepliesCard

/-- THE TIED CARD OF 'pantrylaw07.WireLast'. -/
def wireLastCard : Claim7 := { stood := { row := wireLastRow, standIns := [], harness := (true, "a0fbd94ec054e5db306817e74b54a4dc4ccb7a625e97bd81a78df2003a2e22d5"), looks := false }, kinds := [], alts := [], laidByText := true, laidKinds := [.data, .pinned], laidTests := true, laidLooks := .later }
def WireLastCardSaid : Prop := Claim7.holds Tryz.pinned (.plain (OpenSpec.ofChange wireLastSpec)) wireLastCard

/-- THE TIED CARD OF 'pantrylaw07.WireRow'. -/
def wireRowCard : Claim7 := { stood := { row := wireRowRow, standIns := [], harness := (true, "a0fbd94ec054e5db306817e74b54a4dc4ccb7a625e97bd81a78df2003a2e22d5"), looks := false }, kinds := [], alts := [], laidByText := true, laidKinds := [.data, .data, .data, .data, .pinned], laidTests := true, laidLooks := .later }
def WireRowCardSaid : Prop := Claim7.holds Tryz.pinned (.plain (OpenSpec.ofChange wireRowSpec)) wireRowCard

/-- THE TIED CARD OF 'pantrylaw07.WireOwn'. -/
def wireOwnCard : Claim7 := { stood := { row := wireOwnRow, standIns := [], harness := (true, "a0fbd94ec054e5db306817e74b54a4dc4ccb7a625e97bd81a78df2003a2e22d5"), looks := false }, kinds := [], alts := [], laidByText := true, laidKinds := [.data, .data, .data, .data, .pinned], laidTests := true, laidLooks := .later }
def WireOwnCardSaid : Prop := Claim7.holds Tryz.pinned (.plain (OpenSpec.ofChange wireOwnSpec)) wireOwnCard

/-- THE SECOND FORM's CARD OF 'pantrylaw07.WirePlays'. -/
def wirePlaysUptoCard : Claim7 := { stood := { row := wirePlaysUptoRow, standIns := [], harness := (true, "a0fbd94ec054e5db306817e74b54a4dc4ccb7a625e97bd81a78df2003a2e22d5"), looks := false }, kinds := [], alts := [], laidByText := true, laidKinds := [.data, .pinned], laidTests := true, laidLooks := .later }
def WirePlaysUptoCardSaid : Prop := Claim7.holds Tryz.pinned (.plain (OpenSpec.upto wirePlaysSpec)) wirePlaysUptoCard

/-- THE SECOND FORM's CARD OF 'pantrylaw07.WireCuts'. -/
def wireCutsUptoCard : Claim7 := { stood := { row := wireCutsUptoRow, standIns := [], harness := (true, "a0fbd94ec054e5db306817e74b54a4dc4ccb7a625e97bd81a78df2003a2e22d5"), looks := false }, kinds := [], alts := [], laidByText := true, laidKinds := [.data, .pinned], laidTests := true, laidLooks := .later }
def WireCutsUptoCardSaid : Prop := Claim7.holds Tryz.pinned (.plain (OpenSpec.upto wireCutsSpec)) wireCutsUptoCard

/-- THE SECOND FORM's CARD OF 'pantrylaw07.WireQueries'. -/
def wireQueriesUptoCard : Claim7 := { stood := { row := wireQueriesUptoRow, standIns := [], harness := (true, "a0fbd94ec054e5db306817e74b54a4dc4ccb7a625e97bd81a78df2003a2e22d5"), looks := false }, kinds := [], alts := [], laidByText := true, laidKinds := [.data, .data, .data, .data, .pinned], laidTests := true, laidLooks := .later }
def WireQueriesUptoCardSaid : Prop := Claim7.holds Tryz.pinned (.plain (OpenSpec.upto wireQueriesSpec)) wireQueriesUptoCard

/-- THE SECOND FORM's CARD OF 'pantrylaw07.WireReplies'. -/
def wireRepliesUptoCard : Claim7 := { stood := { row := wireRepliesUptoRow, standIns := [], harness := (true, "a0fbd94ec054e5db306817e74b54a4dc4ccb7a625e97bd81a78df2003a2e22d5"), looks := false }, kinds := [], alts := [], laidByText := true, laidKinds := [.data, .data, .data, .data, .pinned], laidTests := true, laidLooks := .later }
def WireRepliesUptoCardSaid : Prop := Claim7.holds Tryz.pinned (.plain (OpenSpec.upto wireRepliesSpec)) wireRepliesUptoCard

/-- THE SECOND FORM's CARD OF 'pantrylaw07.WireLast'. -/
def wireLastUptoCard : Claim7 := { stood := { row := wireLastUptoRow, standIns := [], harness := (true, "a0fbd94ec054e5db306817e74b54a4dc4ccb7a625e97bd81a78df2003a2e22d5"), looks := false }, kinds := [], alts := [], laidByText := true, laidKinds := [.data, .pinned], laidTests := true, laidLooks := .later }
def WireLastUptoCardSaid : Prop := Claim7.holds Tryz.pinned (.plain (OpenSpec.upto wireLastSpec)) wireLastUptoCard

/-- THE SECOND FORM's CARD OF 'pantrylaw07.WireRow'. -/
def wireRowUptoCard : Claim7 := { stood := { row := wireRowUptoRow, standIns := [], harness := (true, "a0fbd94ec054e5db306817e74b54a4dc4ccb7a625e97bd81a78df2003a2e22d5"), looks := false }, kinds := [], alts := [], laidByText := true, laidKinds := [.data, .data, .data, .data, .pinned], laidTests := true, laidLooks := .later }
def WireRowUptoCardSaid : Prop := Claim7.holds Tryz.pinned (.plain (OpenSpec.upto wireRowSpec)) wireRowUptoCard

/-- THE SECOND FORM's CARD OF 'pantrylaw07.WireOwn'. -/
def wireOwnUptoCard : Claim7 := { stood := { row := wireOwnUptoRow, standIns := [], harness := (true, "a0fbd94ec054e5db306817e74b54a4dc4ccb7a625e97bd81a78df2003a2e22d5"), looks := false }, kinds := [], alts := [], laidByText := true, laidKinds := [.data, .data, .data, .data, .pinned], laidTests := true, laidLooks := .later }
def WireOwnUptoCardSaid : Prop := Claim7.holds Tryz.pinned (.plain (OpenSpec.upto wireOwnSpec)) wireOwnUptoCard
end Rows
end Go.Proofs.YtongceljdgmbdaaGreatDoor
