/-
  DERIVED. GIVEN WITH THE SEED: THE CARDS: each row of YtdebedeebmmleaaGreatDoorRows.lean that lists a variable, with what it lists TIED to the program's text (the seventh form; the later family's looks); each row that meets fmt, with fmt's text TOLD by the authors' own Lean function (tested against real Go, not proved from fmt's source: count such statements apart). THE CARD IS WHAT COUNTS. Prove the row's statement (the work); the ties are given (YtdebedeebmmleaaGreatDoorTie.lean); close each card by the builder's one call (the guide's Derived/Test/ToyasCard.lean, 'card_holds'). Laid BY PROGRAM, IN A SANDBOX (cutbox-door.mjs). By AI agents, Wed Nov 11 2026. No macro, syntax, notation, axiom, sorry.
-/
import Derived.Test.YtdebedeebmmleaaGreatDoorRows
import GoSem.ClaimSeven
namespace Go.Proofs.YtdebedeebmmleaaGreatDoor
namespace Rows

/-- THE TIED CARD OF 'catchmentlaw34.DumpPrints'. -/
def dumpPrintsCard : Claim7 := { stood := { row := dumpPrintsRow, standIns := [], harness := (true, "d8789cfaa8626eb1abe2422bff6e9c309e9f3ef40d7d8726635acc945336108f"), looks := true }, kinds := [], alts := [], laidByText := true, laidKinds := [.data, .data, .data, .data, .sentinel, .sentinel, .data, .pinned], laidTests := true, laidLooks := .later }
def DumpPrintsCardSaid : Prop := Claim7.holds Tryz.pinned (.plain (OpenSpec.ofChange dumpPrintsSpec)) dumpPrintsCard

/-- THE TIED CARD OF 'catchmentlaw34.DumpBack'. -/
def dumpBackCard : Claim7 := { stood := { row := dumpBackRow, standIns := [], harness := (true, "d8789cfaa8626eb1abe2422bff6e9c309e9f3ef40d7d8726635acc945336108f"), looks := true }, kinds := [], alts := [], laidByText := true, laidKinds := [.data, .data, .data, .data, .sentinel, .sentinel, .data, .pinned], laidTests := true, laidLooks := .later }
def DumpBackCardSaid : Prop := Claim7.holds Tryz.pinned (.plain (OpenSpec.ofChange dumpBackSpec)) dumpBackCard

/-- THE TIED CARD OF 'catchmentlaw34.DumpForth'. -/
def dumpForthCard : Claim7 := { stood := { row := dumpForthRow, standIns := [], harness := (true, "d8789cfaa8626eb1abe2422bff6e9c309e9f3ef40d7d8726635acc945336108f"), looks := true }, kinds := [], alts := [], laidByText := true, laidKinds := [.data, .data, .data, .data, .sentinel, .sentinel, .data, .pinned], laidTests := true, laidLooks := .later }
def DumpForthCardSaid : Prop := Claim7.holds Tryz.pinned (.plain (OpenSpec.ofChange dumpForthSpec)) dumpForthCard

/-- THE TIED CARD OF 'catchmentlaw34.DumpCuts'. -/
def dumpCutsCard : Claim7 := { stood := { row := dumpCutsRow, standIns := [], harness := (true, "d8789cfaa8626eb1abe2422bff6e9c309e9f3ef40d7d8726635acc945336108f"), looks := true }, kinds := [], alts := [], laidByText := true, laidKinds := [.data, .data, .data, .data, .sentinel, .sentinel, .data, .pinned], laidTests := true, laidLooks := .later }
def DumpCutsCardSaid : Prop := Claim7.holds Tryz.pinned (.plain (OpenSpec.ofChange dumpCutsSpec)) dumpCutsCard

/-- THE SECOND FORM's CARD OF 'catchmentlaw34.DumpPrints'. -/
def dumpPrintsUptoCard : Claim7 := { stood := { row := dumpPrintsUptoRow, standIns := [], harness := (true, "d8789cfaa8626eb1abe2422bff6e9c309e9f3ef40d7d8726635acc945336108f"), looks := true }, kinds := [], alts := [], laidByText := true, laidKinds := [.data, .data, .data, .data, .sentinel, .sentinel, .data, .pinned], laidTests := true, laidLooks := .later }
def DumpPrintsUptoCardSaid : Prop := Claim7.holds Tryz.pinned (.plain (OpenSpec.upto dumpPrintsSpec)) dumpPrintsUptoCard

/-- THE SECOND FORM's CARD OF 'catchmentlaw34.DumpBack'. -/
def dumpBackUptoCard : Claim7 := { stood := { row := dumpBackUptoRow, standIns := [], harness := (true, "d8789cfaa8626eb1abe2422bff6e9c309e9f3ef40d7d8726635acc945336108f"), looks := true }, kinds := [], alts := [], laidByText := true, laidKinds := [.data, .data, .data, .data, .sentinel, .sentinel, .data, .pinned], laidTests := true, laidLooks := .later }
def DumpBackUptoCardSaid : Prop := Claim7.holds Tryz.pinned (.plain (OpenSpec.upto dumpBackSpec)) dumpBackUptoCard

/-- THE SECOND FORM's CARD OF 'catchmentlaw34.DumpForth'. -/
def dumpForthUptoCard : Claim7 := { stood := { row := dumpForthUptoRow, standIns := [], harness := (true, "d8789cfaa8626eb1abe2422bff6e9c309e9f3ef40d7d8726635acc945336108f"), looks := true }, kinds := [], alts := [], laidByText := true, laidKinds := [.data, .data, .data, .data, .sentinel, .sentinel, .data, .pinned], laidTests := true, laidLooks := .later }
def DumpForthUptoCardSaid : Prop := Claim7.holds Tryz.pinned (.plain (OpenSpec.upto dumpForthSpec)) dumpForthUptoCard

/-- THE SECOND FORM's CARD OF 'catchmentlaw34.DumpCuts'. -/
def dumpCutsUptoCard : Claim7 := { stood := { row := dumpCutsUptoRow, standIns := [], harness := (true, "d8789cfaa8626eb1abe2422bff6e9c309e9f3ef40d7d8726635acc945336108f"), looks := true }, kinds := [], alts := [], laidByText := true, laidKinds := [.data, .data, .data, .data, .sentinel, .sentinel, .data, .pinned], laidTests := true, laidLooks := .later }
def DumpCutsUptoCardSaid : Prop := Claim7.holds Tryz.pinned (.plain (OpenSpec.upto dumpCutsSpec)) dumpCutsUptoCard
end Rows
end Go.Proofs.YtdebedeebmmleaaGreatDoor
