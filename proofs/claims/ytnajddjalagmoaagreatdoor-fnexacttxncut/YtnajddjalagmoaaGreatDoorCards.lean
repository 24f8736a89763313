/-
  DERIVED. GIVEN WITH THE SEED: THE CARDS: each row of YtnajddjalagmoaaGreatDoorRows.lean that lists a variable, with what it lists TIED to the program's text (the seventh form; the later family's looks); each row that meets fmt, with fmt's text TOLD by the authors' own Lean function (tested against real Go, not proved from fmt's source: count such statements apart). THE CARD IS WHAT COUNTS. Prove the row's statement (the work); the ties are given (YtnajddjalagmoaaGreatDoorTie.lean); close each card by the builder's one call (the guide's Derived/Test/ToyasCard.lean, 'card_holds'). Laid BY PROGRAM, IN A SANDBOX (cutbox-door.mjs). By AI agents, Wed Nov 11 2026. No macro, syntax, notation, axiom, sorry.
-/
import Derived.Test.YtnajddjalagmoaaGreatDoorRows
import GoSem.ClaimSeven
namespace Go.Proofs.YtnajddjalagmoaaGreatDoor
namespace Rows

/-- THE TIED CARD OF 'laws.FnExactTxnPut'. -/
def fnExactTxnPutCard : Claim7 := { stood := { row := fnExactTxnPutRow, standIns := [], harness := (true, "c022c9c4479027fa77cf40cf4b0f36bf29d34e78b7e75eedd5c1d863e85d64b4"), looks := true }, kinds := [], alts := [], laidByText := true, laidKinds := [.handle, .sentinel, .sentinel], laidTests := true, laidLooks := .later }
def FnExactTxnPutCardSaid : Prop := Claim7.holds Tryz.pinned (.plain (OpenSpec.ofChange fnExactTxnPutSpec)) fnExactTxnPutCard

/-- THE TIED CARD OF 'laws.FnExactTxnCut'. -/
def fnExactTxnCutCard : Claim7 := { stood := { row := fnExactTxnCutRow, standIns := [], harness := (true, "c022c9c4479027fa77cf40cf4b0f36bf29d34e78b7e75eedd5c1d863e85d64b4"), looks := true }, kinds := [], alts := [], laidByText := true, laidKinds := [.handle, .sentinel, .sentinel], laidTests := true, laidLooks := .later }
def FnExactTxnCutCardSaid : Prop := Claim7.holds Tryz.pinned (.plain (OpenSpec.ofChange fnExactTxnCutSpec)) fnExactTxnCutCard

/-- THE SECOND FORM's CARD OF 'laws.FnExactTxnPut'. -/
def fnExactTxnPutUptoCard : Claim7 := { stood := { row := fnExactTxnPutUptoRow, standIns := [], harness := (true, "c022c9c4479027fa77cf40cf4b0f36bf29d34e78b7e75eedd5c1d863e85d64b4"), looks := true }, kinds := [], alts := [], laidByText := true, laidKinds := [.handle, .sentinel, .sentinel], laidTests := true, laidLooks := .later }
def FnExactTxnPutUptoCardSaid : Prop := Claim7.holds Tryz.pinned (.plain (OpenSpec.upto fnExactTxnPutSpec)) fnExactTxnPutUptoCard

/-- THE SECOND FORM's CARD OF 'laws.FnExactTxnCut'. -/
def fnExactTxnCutUptoCard : Claim7 := { stood := { row := fnExactTxnCutUptoRow, standIns := [], harness := (true, "c022c9c4479027fa77cf40cf4b0f36bf29d34e78b7e75eedd5c1d863e85d64b4"), looks := true }, kinds := [], alts := [], laidByText := true, laidKinds := [.handle, .sentinel, .sentinel], laidTests := true, laidLooks := .later }
def FnExactTxnCutUptoCardSaid : Prop := Claim7.holds Tryz.pinned (.plain (OpenSpec.upto fnExactTxnCutSpec)) fnExactTxnCutUptoCard
end Rows
end Go.Proofs.YtnajddjalagmoaaGreatDoor
