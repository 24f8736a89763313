/-
  DERIVED. GIVEN WITH THE SEED: THE CARDS: each row of YtfmchkagdaaeeaaGreatDoorRows.lean that lists a variable, with what it lists TIED to the program's text (the seventh form; the later family's looks); each row that meets fmt, with fmt's text TOLD by the authors' own Lean function (tested against real Go, not proved from fmt's source: count such statements apart). THE CARD IS WHAT COUNTS. Prove the row's statement (the work); the ties are given (YtfmchkagdaaeeaaGreatDoorTie.lean); close each card by the builder's one call (the guide's Derived/Test/ToyasCard.lean, 'card_holds'). Laid BY PROGRAM, IN A SANDBOX (cutbox-door.mjs). By AI agents, Wed Nov 11 2026. No macro, syntax, notation, axiom, sorry.
-/
import Derived.Test.YtfmchkagdaaeeaaGreatDoorRows
import GoSem.ClaimSeven
namespace Go.Proofs.YtfmchkagdaaeeaaGreatDoor
namespace Rows

/-- THE TIED CARD OF 'laws.FnExactReadShape'. -/
def fnExactReadShapeCard : Claim7 := { stood := { row := fnExactReadShapeRow, standIns := [], harness := (true, "68ff9da8f1c0018e1f7f01693c044fe61ba8604573bf30369d48324ae0bf2866"), looks := true }, kinds := [], alts := [], laidByText := true, laidKinds := [.data, .data, .data, .data, .handle, .sentinel, .sentinel, .data, .pinned], laidTests := true, laidLooks := .later }
def FnExactReadShapeCardSaid : Prop := Claim7.holds Tryz.pinned (.plain (OpenSpec.ofChange fnExactReadShapeSpec)) fnExactReadShapeCard

end Rows
end Go.Proofs.YtfmchkagdaaeeaaGreatDoor
