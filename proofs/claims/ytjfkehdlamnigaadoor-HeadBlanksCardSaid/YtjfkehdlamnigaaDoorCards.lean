/-
  DERIVED. GIVEN WITH THE SEED: THE CARDS: each row of YtjfkehdlamnigaaDoorRows.lean that lists a variable, with what it lists TIED to the program's text (the seventh form; the later family's looks); each row that meets fmt, with fmt's text TOLD by the authors' own Lean function (tested against real Go, not proved from fmt's source: count such statements apart). THE CARD IS WHAT COUNTS. Prove the row's statement (the work); the ties are given (YtjfkehdlamnigaaDoorTie.lean); close each card by the builder's one call (the guide's Derived/Test/ToyasCard.lean, 'card_holds'). Laid BY PROGRAM, IN A SANDBOX (cutbox-door.mjs). By AI agents, Wed Nov 11 2026. No macro, syntax, notation, axiom, sorry.
-/
import Derived.Test.YtjfkehdlamnigaaDoorRows
import GoSem.ClaimSeven
namespace Go.Proofs.YtjfkehdlamnigaaDoor
namespace Rows

/-- THE TIED CARD OF 'pantrylaw05.HeadRequests'. -/
def headRequestsCard : Claim7 := { stood := { row := headRequestsRow, standIns := [], harness := (true, "539a6f2599a3f8f080258034339899d5b7b2ce3df7cb8a8d39c76f4dee6a63d5"), looks := false }, kinds := [], alts := [], laidByText := true, laidKinds := [.data, .pinned], laidTests := true, laidLooks := .later }
def HeadRequestsCardSaid : Prop := Claim7.holds Tryd.pinned (.plain (OpenSpec.ofChange headRequestsSpec)) headRequestsCard

/-- THE TIED CARD OF 'pantrylaw05.HeadParts'. -/
def headPartsCard : Claim7 := { stood := { row := headPartsRow, standIns := [], harness := (true, "539a6f2599a3f8f080258034339899d5b7b2ce3df7cb8a8d39c76f4dee6a63d5"), looks := false }, kinds := [], alts := [], laidByText := true, laidKinds := [.data, .pinned], laidTests := true, laidLooks := .later }
def HeadPartsCardSaid : Prop := Claim7.holds Tryd.pinned (.plain (OpenSpec.ofChange headPartsSpec)) headPartsCard

/-- THE TIED CARD OF 'pantrylaw05.HeadBlanks'. -/
def headBlanksCard : Claim7 := { stood := { row := headBlanksRow, standIns := [], harness := (true, "539a6f2599a3f8f080258034339899d5b7b2ce3df7cb8a8d39c76f4dee6a63d5"), looks := false }, kinds := [], alts := [], laidByText := true, laidKinds := [.data, .pinned], laidTests := true, laidLooks := .later }
def HeadBlanksCardSaid : Prop := Claim7.holds Tryd.pinned (.plain (OpenSpec.ofChange headBlanksSpec)) headBlanksCard

/-- THE TIED CARD OF 'pantrylaw05.HeadKinds'. -/
def headKindsCard : Claim7 := { stood := { row := headKindsRow, standIns := [], harness := (true, "539a6f2599a3f8f080258034339899d5b7b2ce3df7cb8a8d39c76f4dee6a63d5"), looks := false }, kinds := [], alts := [], laidByText := true, laidKinds := [.data, .pinned], laidTests := true, laidLooks := .later }
def HeadKindsCardSaid : Prop := Claim7.holds Tryd.pinned (.plain (OpenSpec.ofChange headKindsSpec)) headKindsCard

/-- THE SECOND FORM's CARD OF 'pantrylaw05.HeadRequests'. -/
def headRequestsUptoCard : Claim7 := { stood := { row := headRequestsUptoRow, standIns := [], harness := (true, "539a6f2599a3f8f080258034339899d5b7b2ce3df7cb8a8d39c76f4dee6a63d5"), looks := false }, kinds := [], alts := [], laidByText := true, laidKinds := [.data, .pinned], laidTests := true, laidLooks := .later }
def HeadRequestsUptoCardSaid : Prop := Claim7.holds Tryd.pinned (.plain (OpenSpec.upto headRequestsSpec)) headRequestsUptoCard

/-- THE SECOND FORM's CARD OF 'pantrylaw05.HeadParts'. -/
def headPartsUptoCard : Claim7 := { stood := { row := headPartsUptoRow, standIns := [], harness := (true, "539a6f2599a3f8f080258034339899d5b7b2ce3df7cb8a8d39c76f4dee6a63d5"), looks := false }, kinds := [], alts := [], laidByText := true, laidKinds := [.data, .pinned], laidTests := true, laidLooks := .later }
def HeadPartsUptoCardSaid : Prop := Claim7.holds Tryd.pinned (.plain (OpenSpec.upto headPartsSpec)) headPartsUptoCard

/-- THE SECOND FORM's CARD OF 'pantrylaw05.HeadBlanks'. -/
def headBlanksUptoCard : Claim7 := { stood := { row := headBlanksUptoRow, standIns := [], harness := (true, "539a6f2599a3f8f080258034339899d5b7b2ce3df7cb8a8d39c76f4dee6a63d5"), looks := false }, kinds := [], alts := [], laidByText := true, laidKinds := [.data, .pinned], laidTests := true, laidLooks := .later }
def HeadBlanksUptoCardSaid : Prop := Claim7.holds Tryd.pinned (.plain (OpenSpec.upto headBlanksSpec)) headBlanksUptoCard

/-- THE SECOND FORM's CARD OF 'pantrylaw05.HeadKinds'. -/
def headKindsUptoCard : Claim7 := { stood := { row := headKindsUptoRow, standIns := [], harness := (true, "539a6f2599a3f8f080258034339899d5b7b2ce3df7cb8a8d39c76f4dee6a63d5"), looks := false }, kinds := [], alts := [], laidByText := true, laidKinds := [.data, .pinned], laidTests := true, laidLooks := .later }
def HeadKindsUptoCardSaid : Prop := Claim7.holds Tryd.pinned (.plain (OpenSpec.upto headKindsSpec)) headKindsUptoCard
end Rows
end Go.Proofs.YtjfkehdlamnigaaDoor
