/-
  DERIVED. GIVEN WITH THE SEED: THE CARDS: each row of YtihjkllcjppoaaaDoorRows.lean that lists a variable, with what it lists TIED to the program's text (the seventh form; the later family's looks); each row that meets fmt, with fmt's text TOLD by the authors' own Lean function (tested against real Go, not proved from fmt's source: count such statements apart). THE CARD IS WHAT COUNTS. Prove the row's statement (the work); the ties are given (YtihjkllcjppoaaaDoorTie.lean); close each card by the builder's one call (the guide's Derived/Test/ToyasCard.lean, 'card_holds'). Laid BY PROGRAM, IN A SANDBOX (cutbox-door.mjs). By AI agents, Wed Nov 11 2026. No macro, syntax, notation, axiom, sorry.
-/
import Derived.Test.YtihjkllcjppoaaaDoorRows
import GoSem.ClaimSeven
namespace Go.Proofs.YtihjkllcjppoaaaDoor
namespace Rows

/-- THE TIED CARD OF 'laws.FnExactPyramidOk'. -/
def fnExactPyramidOkCard : Claim7 := { stood := { row := fnExactPyramidOkRow, standIns := [], harness := (true, "880b6f3137771ee160239c47a128df62b06d76589c597beb5f0bda4ac0d19bc1"), looks := false }, kinds := [], alts := [], laidByText := true, laidKinds := [.data], laidTests := true, laidLooks := .later }
def FnExactPyramidOkCardSaid : Prop := Claim7.holds Tryd.pinned (.plain (OpenSpec.ofChange fnExactPyramidOkSpec)) fnExactPyramidOkCard

/-- THE TIED CARD OF 'laws.FnExactPyramidGet'. -/
def fnExactPyramidGetCard : Claim7 := { stood := { row := fnExactPyramidGetRow, standIns := [], harness := (true, "880b6f3137771ee160239c47a128df62b06d76589c597beb5f0bda4ac0d19bc1"), looks := false }, kinds := [], alts := [], laidByText := true, laidKinds := [.data], laidTests := true, laidLooks := .later }
def FnExactPyramidGetCardSaid : Prop := Claim7.holds Tryd.pinned (.plain (OpenSpec.ofChange fnExactPyramidGetSpec)) fnExactPyramidGetCard

/-- THE SECOND FORM's CARD OF 'laws.FnExactPyramidOk'. -/
def fnExactPyramidOkUptoCard : Claim7 := { stood := { row := fnExactPyramidOkUptoRow, standIns := [], harness := (true, "880b6f3137771ee160239c47a128df62b06d76589c597beb5f0bda4ac0d19bc1"), looks := false }, kinds := [], alts := [], laidByText := true, laidKinds := [.data], laidTests := true, laidLooks := .later }
def FnExactPyramidOkUptoCardSaid : Prop := Claim7.holds Tryd.pinned (.plain (OpenSpec.upto fnExactPyramidOkSpec)) fnExactPyramidOkUptoCard

/-- THE SECOND FORM's CARD OF 'laws.FnExactPyramidGet'. -/
def fnExactPyramidGetUptoCard : Claim7 := { stood := { row := fnExactPyramidGetUptoRow, standIns := [], harness := (true, "880b6f3137771ee160239c47a128df62b06d76589c597beb5f0bda4ac0d19bc1"), looks := false }, kinds := [], alts := [], laidByText := true, laidKinds := [.data], laidTests := true, laidLooks := .later }
def FnExactPyramidGetUptoCardSaid : Prop := Claim7.holds Tryd.pinned (.plain (OpenSpec.upto fnExactPyramidGetSpec)) fnExactPyramidGetUptoCard
end Rows
end Go.Proofs.YtihjkllcjppoaaaDoor
