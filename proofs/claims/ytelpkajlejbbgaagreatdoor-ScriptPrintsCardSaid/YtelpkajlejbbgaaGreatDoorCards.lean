/-
  DERIVED. GIVEN WITH THE SEED: THE CARDS: each row of YtelpkajlejbbgaaGreatDoorRows.lean that lists a variable, with what it lists TIED to the program's text (the seventh form; the later family's looks); each row that meets fmt, with fmt's text TOLD by the authors' own Lean function (tested against real Go, not proved from fmt's source: count such statements apart). THE CARD IS WHAT COUNTS. Prove the row's statement (the work); the ties are given (YtelpkajlejbbgaaGreatDoorTie.lean); close each card by the builder's one call (the guide's Derived/Test/ToyasCard.lean, 'card_holds'). Laid BY PROGRAM, IN A SANDBOX (cutbox-door.mjs). By AI agents, Wed Nov 11 2026. No macro, syntax, notation, axiom, sorry.
-/
import Derived.Test.YtelpkajlejbbgaaGreatDoorRows
import GoSem.ClaimSeven
namespace Go.Proofs.YtelpkajlejbbgaaGreatDoor
namespace Rows

/-- THE TIED CARD OF 'catchmentlaw33.ScriptPrints'. -/
def scriptPrintsCard : Claim7 := { stood := { row := scriptPrintsRow, standIns := [], harness := (true, "1e9f3a4affa939e498a5697e6dfb333f722fcf137a64be992b66111efd1c60d0"), looks := true }, kinds := [], alts := [], laidByText := true, laidKinds := [.data, .data, .data, .data, .sentinel, .sentinel, .data, .pinned], laidTests := true, laidLooks := .later }
def ScriptPrintsCardSaid : Prop := Claim7.holds Tryz.pinned (.plain (OpenSpec.ofChange scriptPrintsSpec)) scriptPrintsCard

/-- THE TIED CARD OF 'catchmentlaw33.ScriptBack'. -/
def scriptBackCard : Claim7 := { stood := { row := scriptBackRow, standIns := [], harness := (true, "1e9f3a4affa939e498a5697e6dfb333f722fcf137a64be992b66111efd1c60d0"), looks := true }, kinds := [], alts := [], laidByText := true, laidKinds := [.data, .data, .data, .data, .sentinel, .sentinel, .data, .pinned], laidTests := true, laidLooks := .later }
def ScriptBackCardSaid : Prop := Claim7.holds Tryz.pinned (.plain (OpenSpec.ofChange scriptBackSpec)) scriptBackCard

/-- THE TIED CARD OF 'catchmentlaw33.ScriptForth'. -/
def scriptForthCard : Claim7 := { stood := { row := scriptForthRow, standIns := [], harness := (true, "1e9f3a4affa939e498a5697e6dfb333f722fcf137a64be992b66111efd1c60d0"), looks := true }, kinds := [], alts := [], laidByText := true, laidKinds := [.data, .data, .data, .data, .sentinel, .sentinel, .data, .pinned], laidTests := true, laidLooks := .later }
def ScriptForthCardSaid : Prop := Claim7.holds Tryz.pinned (.plain (OpenSpec.ofChange scriptForthSpec)) scriptForthCard

/-- THE TIED CARD OF 'catchmentlaw33.ScriptFirst'. -/
def scriptFirstCard : Claim7 := { stood := { row := scriptFirstRow, standIns := [], harness := (true, "1e9f3a4affa939e498a5697e6dfb333f722fcf137a64be992b66111efd1c60d0"), looks := true }, kinds := [], alts := [], laidByText := true, laidKinds := [.data, .data, .data, .data, .sentinel, .sentinel, .data, .pinned], laidTests := true, laidLooks := .later }
def ScriptFirstCardSaid : Prop := Claim7.holds Tryz.pinned (.plain (OpenSpec.ofChange scriptFirstSpec)) scriptFirstCard

/-- THE TIED CARD OF 'catchmentlaw33.ScriptTokens'. -/
def scriptTokensCard : Claim7 := { stood := { row := scriptTokensRow, standIns := [], harness := (true, "1e9f3a4affa939e498a5697e6dfb333f722fcf137a64be992b66111efd1c60d0"), looks := true }, kinds := [], alts := [], laidByText := true, laidKinds := [.data, .data, .data, .data, .sentinel, .sentinel, .data, .pinned], laidTests := true, laidLooks := .later }
def ScriptTokensCardSaid : Prop := Claim7.holds Tryz.pinned (.plain (OpenSpec.ofChange scriptTokensSpec)) scriptTokensCard

/-- THE SECOND FORM's CARD OF 'catchmentlaw33.ScriptPrints'. -/
def scriptPrintsUptoCard : Claim7 := { stood := { row := scriptPrintsUptoRow, standIns := [], harness := (true, "1e9f3a4affa939e498a5697e6dfb333f722fcf137a64be992b66111efd1c60d0"), looks := true }, kinds := [], alts := [], laidByText := true, laidKinds := [.data, .data, .data, .data, .sentinel, .sentinel, .data, .pinned], laidTests := true, laidLooks := .later }
def ScriptPrintsUptoCardSaid : Prop := Claim7.holds Tryz.pinned (.plain (OpenSpec.upto scriptPrintsSpec)) scriptPrintsUptoCard

/-- THE SECOND FORM's CARD OF 'catchmentlaw33.ScriptBack'. -/
def scriptBackUptoCard : Claim7 := { stood := { row := scriptBackUptoRow, standIns := [], harness := (true, "1e9f3a4affa939e498a5697e6dfb333f722fcf137a64be992b66111efd1c60d0"), looks := true }, kinds := [], alts := [], laidByText := true, laidKinds := [.data, .data, .data, .data, .sentinel, .sentinel, .data, .pinned], laidTests := true, laidLooks := .later }
def ScriptBackUptoCardSaid : Prop := Claim7.holds Tryz.pinned (.plain (OpenSpec.upto scriptBackSpec)) scriptBackUptoCard

/-- THE SECOND FORM's CARD OF 'catchmentlaw33.ScriptForth'. -/
def scriptForthUptoCard : Claim7 := { stood := { row := scriptForthUptoRow, standIns := [], harness := (true, "1e9f3a4affa939e498a5697e6dfb333f722fcf137a64be992b66111efd1c60d0"), looks := true }, kinds := [], alts := [], laidByText := true, laidKinds := [.data, .data, .data, .data, .sentinel, .sentinel, .data, .pinned], laidTests := true, laidLooks := .later }
def ScriptForthUptoCardSaid : Prop := Claim7.holds Tryz.pinned (.plain (OpenSpec.upto scriptForthSpec)) scriptForthUptoCard

/-- THE SECOND FORM's CARD OF 'catchmentlaw33.ScriptFirst'. -/
def scriptFirstUptoCard : Claim7 := { stood := { row := scriptFirstUptoRow, standIns := [], harness := (true, "1e9f3a4affa939e498a5697e6dfb333f722fcf137a64be992b66111efd1c60d0"), looks := true }, kinds := [], alts := [], laidByText := true, laidKinds := [.data, .data, .data, .data, .sentinel, .sentinel, .data, .pinned], laidTests := true, laidLooks := .later }
def ScriptFirstUptoCardSaid : Prop := Claim7.holds Tryz.pinned (.plain (OpenSpec.upto scriptFirstSpec)) scriptFirstUptoCard

/-- THE SECOND FORM's CARD OF 'catchmentlaw33.ScriptTokens'. -/
def scriptTokensUptoCard : Claim7 := { stood := { row := scriptTokensUptoRow, standIns := [], harness := (true, "1e9f3a4affa939e498a5697e6dfb333f722fcf137a64be992b66111efd1c60d0"), looks := true }, kinds := [], alts := [], laidByText := true, laidKinds := [.data, .data, .data, .data, .sentinel, .sentinel, .data, .pinned], laidTests := true, laidLooks := .later }
def ScriptTokensUptoCardSaid : Prop := Claim7.holds Tryz.pinned (.plain (OpenSpec.upto scriptTokensSpec)) scriptTokensUptoCard
end Rows
end Go.Proofs.YtelpkajlejbbgaaGreatDoor
