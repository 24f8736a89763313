/-
  DERIVED. GIVEN WITH THE SEED: THE CARDS: each row of YtdhdfgobefapiaaDoorRows.lean that lists a variable, with what it lists TIED to the program's text (the seventh form; the later family's looks); each row that meets fmt, with fmt's text TOLD by the authors' own Lean function (tested against real Go, not proved from fmt's source: count such statements apart). THE CARD IS WHAT COUNTS. Prove the row's statement (the work); the ties are given (YtdhdfgobefapiaaDoorTie.lean); close each card by the builder's one call (the guide's Derived/Test/ToyasCard.lean, 'card_holds'). Laid BY PROGRAM, IN A SANDBOX (cutbox-door.mjs). By AI agents, Wed Nov 11 2026. No macro, syntax, notation, axiom, sorry.
-/
import Derived.Test.YtdhdfgobefapiaaDoorRows
import GoSem.ClaimSeven
namespace Go.Proofs.YtdhdfgobefapiaaDoor
namespace Rows

/-- THE TIED CARD OF 'laws.FnExactSiteTile'. -/
def fnExactSiteTileCard : Claim7 := { stood := { row := fnExactSiteTileRow, standIns := [], harness := (true, "93bfcb0fe391358a6f76507b1a21271495a5a925b1657f1e3e1c0152772af78d"), looks := false }, kinds := [], alts := [], laidByText := true, laidKinds := [.data], laidTests := true, laidLooks := .later }
def FnExactSiteTileCardSaid : Prop := Claim7.holds Tryd.pinned (.plain (OpenSpec.ofChange fnExactSiteTileSpec)) fnExactSiteTileCard

/-- THE SECOND FORM's CARD OF 'laws.FnExactSiteTile'. -/
def fnExactSiteTileUptoCard : Claim7 := { stood := { row := fnExactSiteTileUptoRow, standIns := [], harness := (true, "93bfcb0fe391358a6f76507b1a21271495a5a925b1657f1e3e1c0152772af78d"), looks := false }, kinds := [], alts := [], laidByText := true, laidKinds := [.data], laidTests := true, laidLooks := .later }
def FnExactSiteTileUptoCardSaid : Prop := Claim7.holds Tryd.pinned (.plain (OpenSpec.upto fnExactSiteTileSpec)) fnExactSiteTileUptoCard
end Rows
end Go.Proofs.YtdhdfgobefapiaaDoor
