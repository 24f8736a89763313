/-
  DERIVED. GIVEN WITH THE SEED: THE CARDS: each row of YtafjjchebmldeaaGreatDoorRows.lean that lists a variable, with what it lists TIED to the program's text (the seventh form; the later family's looks); each row that meets fmt, with fmt's text TOLD by the authors' own Lean function (tested against real Go, not proved from fmt's source: count such statements apart). THE CARD IS WHAT COUNTS. Prove the row's statement (the work); the ties are given (YtafjjchebmldeaaGreatDoorTie.lean); close each card by the builder's one call (the guide's Derived/Test/ToyasCard.lean, 'card_holds'). Laid BY PROGRAM, IN A SANDBOX (cutbox-door.mjs). By AI agents, Wed Nov 11 2026. No macro, syntax, notation, axiom, sorry.
-/
import Derived.Test.YtafjjchebmldeaaGreatDoorRows
import GoSem.ClaimSeven
namespace Go.Proofs.YtafjjchebmldeaaGreatDoor
namespace Rows

/-- THE TIED CARD OF 'laws.FnExactTxnGet'. -/
def fnExactTxnGetCard : Claim7 := { stood := { row := fnExactTxnGetRow, standIns := [], harness := (true, "debeb16b29ba79081dafe81f9d3ff4170c7a07c41eadc2d1014bccaf706598cc"), looks := false }, kinds := [], alts := [], laidByText := true, laidKinds := [.sentinel], laidTests := true, laidLooks := .later }
def FnExactTxnGetCardSaid : Prop := Claim7.holds Tryz.pinned (.plain (OpenSpec.ofChange fnExactTxnGetSpec)) fnExactTxnGetCard

/-- THE TIED CARD OF 'laws.FnExactTxnIds'. -/
def fnExactTxnIdsCard : Claim7 := { stood := { row := fnExactTxnIdsRow, standIns := [], harness := (true, "debeb16b29ba79081dafe81f9d3ff4170c7a07c41eadc2d1014bccaf706598cc"), looks := false }, kinds := [], alts := [], laidByText := true, laidKinds := [.sentinel], laidTests := true, laidLooks := .later }
def FnExactTxnIdsCardSaid : Prop := Claim7.holds Tryz.pinned (.plain (OpenSpec.ofChange fnExactTxnIdsSpec)) fnExactTxnIdsCard

/-- THE SECOND FORM's CARD OF 'laws.FnExactTxnGet'. -/
def fnExactTxnGetUptoCard : Claim7 := { stood := { row := fnExactTxnGetUptoRow, standIns := [], harness := (true, "debeb16b29ba79081dafe81f9d3ff4170c7a07c41eadc2d1014bccaf706598cc"), looks := false }, kinds := [], alts := [], laidByText := true, laidKinds := [.sentinel], laidTests := true, laidLooks := .later }
def FnExactTxnGetUptoCardSaid : Prop := Claim7.holds Tryz.pinned (.plain (OpenSpec.upto fnExactTxnGetSpec)) fnExactTxnGetUptoCard

/-- THE SECOND FORM's CARD OF 'laws.FnExactTxnIds'. -/
def fnExactTxnIdsUptoCard : Claim7 := { stood := { row := fnExactTxnIdsUptoRow, standIns := [], harness := (true, "debeb16b29ba79081dafe81f9d3ff4170c7a07c41eadc2d1014bccaf706598cc"), looks := false }, kinds := [], alts := [], laidByText := true, laidKinds := [.sentinel], laidTests := true, laidLooks := .later }
def FnExactTxnIdsUptoCardSaid : Prop := Claim7.holds Tryz.pinned (.plain (OpenSpec.upto fnExactTxnIdsSpec)) fnExactTxnIdsUptoCard
end Rows
end Go.Proofs.YtafjjchebmldeaaGreatDoor
