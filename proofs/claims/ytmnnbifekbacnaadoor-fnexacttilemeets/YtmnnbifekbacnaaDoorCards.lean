/-
  DERIVED. GIVEN WITH THE SEED: THE CARDS: each row of YtmnnbifekbacnaaDoorRows.lean that lists a variable, with what it lists TIED to the program's text (the seventh form; the later family's looks); each row that meets fmt, with fmt's text TOLD by the authors' own Lean function (tested against real Go, not proved from fmt's source: count such statements apart). THE CARD IS WHAT COUNTS. Prove the row's statement (the work); the ties are given (YtmnnbifekbacnaaDoorTie.lean); close each card by the builder's one call (the guide's Derived/Test/ToyasCard.lean, 'card_holds'). Laid BY PROGRAM, IN A SANDBOX (cutbox-door.mjs). By AI agents, Wed Nov 11 2026. No macro, syntax, notation, axiom, sorry.
-/
import Derived.Test.YtmnnbifekbacnaaDoorRows
import GoSem.ClaimSeven
namespace Go.Proofs.YtmnnbifekbacnaaDoor
namespace Rows

/-- THE TIED CARD OF 'laws.FnExactTileMeets'. -/
def fnExactTileMeetsCard : Claim7 := { stood := { row := fnExactTileMeetsRow, standIns := [], harness := (true, "1e238ca5dc821feb009380fafe93c970f19d2b3530fcccdabb7dc44ecc0b7035"), looks := true }, kinds := [], alts := [], laidByText := true, laidKinds := [.data], laidTests := true, laidLooks := .later }
def FnExactTileMeetsCardSaid : Prop := Claim7.holds Tryd.pinned (.plain (OpenSpec.ofChange fnExactTileMeetsSpec)) fnExactTileMeetsCard

/-- THE SECOND FORM's CARD OF 'laws.FnExactTileMeets'. -/
def fnExactTileMeetsUptoCard : Claim7 := { stood := { row := fnExactTileMeetsUptoRow, standIns := [], harness := (true, "1e238ca5dc821feb009380fafe93c970f19d2b3530fcccdabb7dc44ecc0b7035"), looks := true }, kinds := [], alts := [], laidByText := true, laidKinds := [.data], laidTests := true, laidLooks := .later }
def FnExactTileMeetsUptoCardSaid : Prop := Claim7.holds Tryd.pinned (.plain (OpenSpec.upto fnExactTileMeetsSpec)) fnExactTileMeetsUptoCard
end Rows
end Go.Proofs.YtmnnbifekbacnaaDoor
