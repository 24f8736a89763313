/-
  DERIVED. GIVEN WITH THE SEED: THE CARDS: each row of YtfmchkagdaaeeaaDoorRows.lean that lists a variable, with what it lists TIED to the program's text (the seventh form; the later family's looks); each row that meets fmt, with fmt's text TOLD by the authors' own Lean function (tested against real Go, not proved from fmt's source: count such statements apart). THE CARD IS WHAT COUNTS. Prove the row's statement (the work); the ties are given (YtfmchkagdaaeeaaDoorTie.lean); close each card by the builder's one call (the guide's Derived/Test/ToyasCard.lean, 'card_holds'). Laid BY PROGRAM, IN A SANDBOX (cutbox-door.mjs). By AI agents, Wed Nov 11 2026. No macro, syntax, notation, axiom, sorry.
-/
import Derived.Test.YtfmchkagdaaeeaaDoorRows
import GoSem.ClaimSeven
namespace Go.Proofs.YtfmchkagdaaeeaaDoor
namespace Rows

/-- THE TIED CARD OF 'laws.FnExactGetShape'. -/
def fnExactGetShapeCard : Claim7 := { stood := { row := fnExactGetShapeRow, standIns := [], harness := (true, "659d856c2a61a94bf374c64151d041db5a47d11430e7240a8f28d66761d668bb"), looks := true }, kinds := [], alts := [], laidByText := true, laidKinds := [.handle], laidTests := true, laidLooks := .later }
def FnExactGetShapeCardSaid : Prop := Claim7.holds Tryd.pinned (.plain (OpenSpec.ofChange fnExactGetShapeSpec)) fnExactGetShapeCard

end Rows
end Go.Proofs.YtfmchkagdaaeeaaDoor
