/-
  DERIVED. GIVEN WITH THE SEED: THE CARDS: each row of YtldeknphfddlfaaGreatDoorRows.lean that lists a variable, with what it lists TIED to the program's text (the seventh form; the later family's looks); each row that meets fmt, with fmt's text TOLD by the authors' own Lean function (tested against real Go, not proved from fmt's source: count such statements apart). THE CARD IS WHAT COUNTS. Prove the row's statement (the work); the ties are given (YtldeknphfddlfaaGreatDoorTie.lean); close each card by the builder's one call (the guide's Derived/Test/ToyasCard.lean, 'card_holds'). Laid BY PROGRAM, IN A SANDBOX (cutbox-door.mjs). By AI agents, Wed Nov 11 2026. No macro, syntax, notation, axiom, sorry.
-/
import Derived.Test.YtldeknphfddlfaaGreatDoorRows
import GoSem.ClaimSeven
namespace Go.Proofs.YtldeknphfddlfaaGreatDoor
namespace Rows

/-- THE TIED CARD OF 'laws.FnExactGetChanges'. -/
def fnExactGetChangesCard : Claim7 := { stood := { row := fnExactGetChangesRow, standIns := [], harness := (true, "419a95a14d7b9f0ed6d6bd50b1f6f3ccc41ae577b91d280122039306ae666d6f"), looks := true }, kinds := [], alts := [], laidByText := true, laidKinds := [.handle], laidTests := true, laidLooks := .later }
def FnExactGetChangesCardSaid : Prop := Claim7.holds Tryz.pinned (.plain (OpenSpec.ofChange fnExactGetChangesSpec)) fnExactGetChangesCard

/-- THE TIED CARD OF 'laws.FnExactRecords'. -/
def fnExactRecordsCard : Claim7 := { stood := { row := fnExactRecordsRow, standIns := [], harness := (true, "419a95a14d7b9f0ed6d6bd50b1f6f3ccc41ae577b91d280122039306ae666d6f"), looks := true }, kinds := [], alts := [], laidByText := true, laidKinds := [.handle], laidTests := true, laidLooks := .later }
def FnExactRecordsCardSaid : Prop := Claim7.holds Tryz.pinned (.plain (OpenSpec.ofChange fnExactRecordsSpec)) fnExactRecordsCard

/-- THE SECOND FORM's CARD OF 'laws.FnExactGetChanges'. -/
def fnExactGetChangesUptoCard : Claim7 := { stood := { row := fnExactGetChangesUptoRow, standIns := [], harness := (true, "419a95a14d7b9f0ed6d6bd50b1f6f3ccc41ae577b91d280122039306ae666d6f"), looks := true }, kinds := [], alts := [], laidByText := true, laidKinds := [.handle], laidTests := true, laidLooks := .later }
def FnExactGetChangesUptoCardSaid : Prop := Claim7.holds Tryz.pinned (.plain (OpenSpec.upto fnExactGetChangesSpec)) fnExactGetChangesUptoCard

/-- THE SECOND FORM's CARD OF 'laws.FnExactRecords'. -/
def fnExactRecordsUptoCard : Claim7 := { stood := { row := fnExactRecordsUptoRow, standIns := [], harness := (true, "419a95a14d7b9f0ed6d6bd50b1f6f3ccc41ae577b91d280122039306ae666d6f"), looks := true }, kinds := [], alts := [], laidByText := true, laidKinds := [.handle], laidTests := true, laidLooks := .later }
def FnExactRecordsUptoCardSaid : Prop := Claim7.holds Tryz.pinned (.plain (OpenSpec.upto fnExactRecordsSpec)) fnExactRecordsUptoCard
end Rows
end Go.Proofs.YtldeknphfddlfaaGreatDoor
