/-
  DERIVED. GIVEN WITH THE SEED: THE CARDS: each row of YtfajjnkkablneaaGreatDoorRows.lean that lists a variable, with what it lists TIED to the program's text (the seventh form; the later family's looks); each row that meets fmt, with fmt's text TOLD by the authors' own Lean function (tested against real Go, not proved from fmt's source: count such statements apart). THE CARD IS WHAT COUNTS. Prove the row's statement (the work); the ties are given (YtfajjnkkablneaaGreatDoorTie.lean); close each card by the builder's one call (the guide's Derived/Test/ToyasCard.lean, 'card_holds'). Laid BY PROGRAM, IN A SANDBOX (cutbox-door.mjs). By AI agents, Wed Nov 11 2026. No macro, syntax, notation, axiom, sorry.
-/
import Derived.Test.YtfajjnkkablneaaGreatDoorRows
import GoSem.ClaimSeven
namespace Go.Proofs.YtfajjnkkablneaaGreatDoor
namespace Rows

/-- THE TIED CARD OF 'laws.FnExactDump'. -/
def fnExactDumpCard : Claim7 := { stood := { row := fnExactDumpRow, standIns := [], harness := (true, "41185405262080965d5138b3b15bf6b3365d3cb87a6d937b6edc1f6faf18dc94"), looks := false }, kinds := [], alts := [], laidByText := true, laidKinds := [.data, .data, .data, .data], laidTests := true, laidLooks := .later }
def FnExactDumpCardSaid : Prop := Claim7.holds Tryz.pinned (.plain (OpenSpec.ofChange fnExactDumpSpec)) fnExactDumpCard

/-- THE SECOND FORM's CARD OF 'laws.FnExactDump'. -/
def fnExactDumpUptoCard : Claim7 := { stood := { row := fnExactDumpUptoRow, standIns := [], harness := (true, "41185405262080965d5138b3b15bf6b3365d3cb87a6d937b6edc1f6faf18dc94"), looks := false }, kinds := [], alts := [], laidByText := true, laidKinds := [.data, .data, .data, .data], laidTests := true, laidLooks := .later }
def FnExactDumpUptoCardSaid : Prop := Claim7.holds Tryz.pinned (.plain (OpenSpec.upto fnExactDumpSpec)) fnExactDumpUptoCard
end Rows
end Go.Proofs.YtfajjnkkablneaaGreatDoor
