/-
  DERIVED. GIVEN WITH THE SEED: THE CARDS: each row of YtehifednpbdokaaGreatDoorRows.lean that lists a variable, with what it lists TIED to the program's text (the seventh form; the later family's looks); each row that meets fmt, with fmt's text TOLD by the authors' own Lean function (tested against real Go, not proved from fmt's source: count such statements apart). THE CARD IS WHAT COUNTS. Prove the row's statement (the work); the ties are given (YtehifednpbdokaaGreatDoorTie.lean); close each card by the builder's one call (the guide's Derived/Test/ToyasCard.lean, 'card_holds'). Laid BY PROGRAM, IN A SANDBOX (cutbox-door.mjs). By AI agents, Wed Nov 11 2026. No macro, syntax, notation, axiom, sorry.
-/
import Derived.Test.YtehifednpbdokaaGreatDoorRows
import GoSem.ClaimSeven
namespace Go.Proofs.YtehifednpbdokaaGreatDoor
namespace Rows

/-- THE TIED CARD OF 'laws.FnExactTxnGet'. -/
def fnExactTxnGetCard : Claim7 := { stood := { row := fnExactTxnGetRow, standIns := [], harness := (true, "1a2a96d832d18bb1482dcbd269c707d6761fac7cb92bacdc6d13e726d0ad6685"), looks := true }, kinds := [], alts := [], laidByText := true, laidKinds := [.sentinel], laidTests := true, laidLooks := .later }
def FnExactTxnGetCardSaid : Prop := Claim7.holds Tryz.pinned (.plain (OpenSpec.ofChange fnExactTxnGetSpec)) fnExactTxnGetCard

/-- THE TIED CARD OF 'laws.FnExactTxnIds'. -/
def fnExactTxnIdsCard : Claim7 := { stood := { row := fnExactTxnIdsRow, standIns := [], harness := (true, "1a2a96d832d18bb1482dcbd269c707d6761fac7cb92bacdc6d13e726d0ad6685"), looks := true }, kinds := [], alts := [], laidByText := true, laidKinds := [.sentinel], laidTests := true, laidLooks := .later }
def FnExactTxnIdsCardSaid : Prop := Claim7.holds Tryz.pinned (.plain (OpenSpec.ofChange fnExactTxnIdsSpec)) fnExactTxnIdsCard

/-- THE TIED CARD OF 'laws.FnExactTxnPut'. -/
def fnExactTxnPutCard : Claim7 := { stood := { row := fnExactTxnPutRow, standIns := [], harness := (true, "1a2a96d832d18bb1482dcbd269c707d6761fac7cb92bacdc6d13e726d0ad6685"), looks := true }, kinds := [], alts := [], laidByText := true, laidKinds := [.handle, .sentinel, .sentinel], laidTests := true, laidLooks := .later }
def FnExactTxnPutCardSaid : Prop := Claim7.holds Tryz.pinned (.plain (OpenSpec.ofChange fnExactTxnPutSpec)) fnExactTxnPutCard

/-- THE TIED CARD OF 'laws.FnExactTxnCut'. -/
def fnExactTxnCutCard : Claim7 := { stood := { row := fnExactTxnCutRow, standIns := [], harness := (true, "1a2a96d832d18bb1482dcbd269c707d6761fac7cb92bacdc6d13e726d0ad6685"), looks := true }, kinds := [], alts := [], laidByText := true, laidKinds := [.handle, .sentinel, .sentinel], laidTests := true, laidLooks := .later }
def FnExactTxnCutCardSaid : Prop := Claim7.holds Tryz.pinned (.plain (OpenSpec.ofChange fnExactTxnCutSpec)) fnExactTxnCutCard

/-- THE TIED CARD OF 'laws.FnExactRollback'. -/
def fnExactRollbackCard : Claim7 := { stood := { row := fnExactRollbackRow, standIns := [], harness := (true, "1a2a96d832d18bb1482dcbd269c707d6761fac7cb92bacdc6d13e726d0ad6685"), looks := true }, kinds := [], alts := [], laidByText := true, laidKinds := [.handle, .sentinel], laidTests := true, laidLooks := .later }
def FnExactRollbackCardSaid : Prop := Claim7.holds Tryz.pinned (.plain (OpenSpec.ofChange fnExactRollbackSpec)) fnExactRollbackCard

/-- THE SECOND FORM's CARD OF 'laws.FnExactTxnGet'. -/
def fnExactTxnGetUptoCard : Claim7 := { stood := { row := fnExactTxnGetUptoRow, standIns := [], harness := (true, "1a2a96d832d18bb1482dcbd269c707d6761fac7cb92bacdc6d13e726d0ad6685"), looks := true }, kinds := [], alts := [], laidByText := true, laidKinds := [.sentinel], laidTests := true, laidLooks := .later }
def FnExactTxnGetUptoCardSaid : Prop := Claim7.holds Tryz.pinned (.plain (OpenSpec.upto fnExactTxnGetSpec)) fnExactTxnGetUptoCard

/-- THE SECOND FORM's CARD OF 'laws.FnExactTxnIds'. -/
def fnExactTxnIdsUptoCard : Claim7 := { stood := { row := fnExactTxnIdsUptoRow, standIns := [], harness := (true, "1a2a96d832d18bb1482dcbd269c707d6761fac7cb92bacdc6d13e726d0ad6685"), looks := true }, kinds := [], alts := [], laidByText := true, laidKinds := [.sentinel], laidTests := true, laidLooks := .later }
def FnExactTxnIdsUptoCardSaid : Prop := Claim7.holds Tryz.pinned (.plain (OpenSpec.upto fnExactTxnIdsSpec)) fnExactTxnIdsUptoCard

/-- THE SECOND FORM's CARD OF 'laws.FnExactTxnPut'. -/
def fnExactTxnPutUptoCard : Claim7 := { stood := { row := fnExactTxnPutUptoRow, standIns := [], harness := (true, "1a2a96d832d18bb1482dcbd269c707d6761fac7cb92bacdc6d13e726d0ad6685"), looks := true }, kinds := [], alts := [], laidByText := true, laidKinds := [.handle, .sentinel, .sentinel], laidTests := true, laidLooks := .later }
def FnExactTxnPutUptoCardSaid : Prop := Claim7.holds Tryz.pinned (.plain (OpenSpec.upto fnExactTxnPutSpec)) fnExactTxnPutUptoCard

/-- THE SECOND FORM's CARD OF 'laws.FnExactTxnCut'. -/
def fnExactTxnCutUptoCard : Claim7 := { stood := { row := fnExactTxnCutUptoRow, standIns := [], harness := (true, "1a2a96d832d18bb1482dcbd269c707d6761fac7cb92bacdc6d13e726d0ad6685"), looks := true }, kinds := [], alts := [], laidByText := true, laidKinds := [.handle, .sentinel, .sentinel], laidTests := true, laidLooks := .later }
def FnExactTxnCutUptoCardSaid : Prop := Claim7.holds Tryz.pinned (.plain (OpenSpec.upto fnExactTxnCutSpec)) fnExactTxnCutUptoCard

/-- THE SECOND FORM's CARD OF 'laws.FnExactRollback'. -/
def fnExactRollbackUptoCard : Claim7 := { stood := { row := fnExactRollbackUptoRow, standIns := [], harness := (true, "1a2a96d832d18bb1482dcbd269c707d6761fac7cb92bacdc6d13e726d0ad6685"), looks := true }, kinds := [], alts := [], laidByText := true, laidKinds := [.handle, .sentinel], laidTests := true, laidLooks := .later }
def FnExactRollbackUptoCardSaid : Prop := Claim7.holds Tryz.pinned (.plain (OpenSpec.upto fnExactRollbackSpec)) fnExactRollbackUptoCard
end Rows
end Go.Proofs.YtehifednpbdokaaGreatDoor
