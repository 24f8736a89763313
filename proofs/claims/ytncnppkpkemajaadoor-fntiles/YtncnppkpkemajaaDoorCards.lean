/-
  DERIVED. GIVEN WITH THE SEED: THE CARDS: each row of YtncnppkpkemajaaDoorRows.lean that lists a variable, with what it lists TIED to the program's text (the seventh form; the later family's looks); each row that meets fmt, with fmt's text TOLD by the authors' own Lean function (tested against real Go, not proved from fmt's source: count such statements apart). THE CARD IS WHAT COUNTS. Prove the row's statement (the work); the ties are given (YtncnppkpkemajaaDoorTie.lean); close each card by the builder's one call (the guide's Derived/Test/ToyasCard.lean, 'card_holds'). Laid BY PROGRAM, IN A SANDBOX (cutbox-door.mjs). By AI agents, Wed Nov 11 2026. No macro, syntax, notation, axiom, sorry.
-/
import Derived.Test.YtncnppkpkemajaaDoorRows
import GoSem.ClaimSeven
namespace Go.Proofs.YtncnppkpkemajaaDoor
namespace Rows

/-- THE TIED CARD OF 'laws.FnTiles'. -/
def fnTilesCard : Claim7 := { stood := { row := fnTilesRow, standIns := [], harness := (true, "156a01aca6c4d1a8ab5328d4decec17f63116d3bce6f87e6ec0f5479a17eee40"), looks := false }, kinds := [], alts := [], laidByText := true, laidKinds := [.data], laidTests := true, laidLooks := .later }
def FnTilesCardSaid : Prop := Claim7.holds Tryd.pinned (.plain (OpenSpec.ofChange fnTilesSpec)) fnTilesCard

/-- THE TIED CARD OF 'laws.FnExactTileOk'. -/
def fnExactTileOkCard : Claim7 := { stood := { row := fnExactTileOkRow, standIns := [], harness := (true, "156a01aca6c4d1a8ab5328d4decec17f63116d3bce6f87e6ec0f5479a17eee40"), looks := false }, kinds := [], alts := [], laidByText := true, laidKinds := [.data], laidTests := true, laidLooks := .later }
def FnExactTileOkCardSaid : Prop := Claim7.holds Tryd.pinned (.plain (OpenSpec.ofChange fnExactTileOkSpec)) fnExactTileOkCard

/-- THE TIED CARD OF 'laws.FnExactTileBox'. -/
def fnExactTileBoxCard : Claim7 := { stood := { row := fnExactTileBoxRow, standIns := [], harness := (true, "156a01aca6c4d1a8ab5328d4decec17f63116d3bce6f87e6ec0f5479a17eee40"), looks := false }, kinds := [], alts := [], laidByText := true, laidKinds := [.data], laidTests := true, laidLooks := .later }
def FnExactTileBoxCardSaid : Prop := Claim7.holds Tryd.pinned (.plain (OpenSpec.ofChange fnExactTileBoxSpec)) fnExactTileBoxCard

/-- THE TIED CARD OF 'laws.FnExactTileUp'. -/
def fnExactTileUpCard : Claim7 := { stood := { row := fnExactTileUpRow, standIns := [], harness := (true, "156a01aca6c4d1a8ab5328d4decec17f63116d3bce6f87e6ec0f5479a17eee40"), looks := false }, kinds := [], alts := [], laidByText := true, laidKinds := [.data], laidTests := true, laidLooks := .later }
def FnExactTileUpCardSaid : Prop := Claim7.holds Tryd.pinned (.plain (OpenSpec.ofChange fnExactTileUpSpec)) fnExactTileUpCard

/-- THE TIED CARD OF 'laws.FnExactTileDown'. -/
def fnExactTileDownCard : Claim7 := { stood := { row := fnExactTileDownRow, standIns := [], harness := (true, "156a01aca6c4d1a8ab5328d4decec17f63116d3bce6f87e6ec0f5479a17eee40"), looks := false }, kinds := [], alts := [], laidByText := true, laidKinds := [.data], laidTests := true, laidLooks := .later }
def FnExactTileDownCardSaid : Prop := Claim7.holds Tryd.pinned (.plain (OpenSpec.ofChange fnExactTileDownSpec)) fnExactTileDownCard

/-- THE TIED CARD OF 'laws.FnExactTileKey'. -/
def fnExactTileKeyCard : Claim7 := { stood := { row := fnExactTileKeyRow, standIns := [], harness := (true, "156a01aca6c4d1a8ab5328d4decec17f63116d3bce6f87e6ec0f5479a17eee40"), looks := false }, kinds := [], alts := [], laidByText := true, laidKinds := [.data], laidTests := true, laidLooks := .later }
def FnExactTileKeyCardSaid : Prop := Claim7.holds Tryd.pinned (.plain (OpenSpec.ofChange fnExactTileKeySpec)) fnExactTileKeyCard

/-- THE TIED CARD OF 'laws.FnExactTileOf'. -/
def fnExactTileOfCard : Claim7 := { stood := { row := fnExactTileOfRow, standIns := [], harness := (true, "156a01aca6c4d1a8ab5328d4decec17f63116d3bce6f87e6ec0f5479a17eee40"), looks := false }, kinds := [], alts := [], laidByText := true, laidKinds := [.data], laidTests := true, laidLooks := .later }
def FnExactTileOfCardSaid : Prop := Claim7.holds Tryd.pinned (.plain (OpenSpec.ofChange fnExactTileOfSpec)) fnExactTileOfCard

/-- THE SECOND FORM's CARD OF 'laws.FnTiles'. -/
def fnTilesUptoCard : Claim7 := { stood := { row := fnTilesUptoRow, standIns := [], harness := (true, "156a01aca6c4d1a8ab5328d4decec17f63116d3bce6f87e6ec0f5479a17eee40"), looks := false }, kinds := [], alts := [], laidByText := true, laidKinds := [.data], laidTests := true, laidLooks := .later }
def FnTilesUptoCardSaid : Prop := Claim7.holds Tryd.pinned (.plain (OpenSpec.upto fnTilesSpec)) fnTilesUptoCard

/-- THE SECOND FORM's CARD OF 'laws.FnExactTileOk'. -/
def fnExactTileOkUptoCard : Claim7 := { stood := { row := fnExactTileOkUptoRow, standIns := [], harness := (true, "156a01aca6c4d1a8ab5328d4decec17f63116d3bce6f87e6ec0f5479a17eee40"), looks := false }, kinds := [], alts := [], laidByText := true, laidKinds := [.data], laidTests := true, laidLooks := .later }
def FnExactTileOkUptoCardSaid : Prop := Claim7.holds Tryd.pinned (.plain (OpenSpec.upto fnExactTileOkSpec)) fnExactTileOkUptoCard

/-- THE SECOND FORM's CARD OF 'laws.FnExactTileBox'. -/
def fnExactTileBoxUptoCard : Claim7 := { stood := { row := fnExactTileBoxUptoRow, standIns := [], harness := (true, "156a01aca6c4d1a8ab5328d4decec17f63116d3bce6f87e6ec0f5479a17eee40"), looks := false }, kinds := [], alts := [], laidByText := true, laidKinds := [.data], laidTests := true, laidLooks := .later }
def FnExactTileBoxUptoCardSaid : Prop := Claim7.holds Tryd.pinned (.plain (OpenSpec.upto fnExactTileBoxSpec)) fnExactTileBoxUptoCard

/-- THE SECOND FORM's CARD OF 'laws.FnExactTileUp'. -/
def fnExactTileUpUptoCard : Claim7 := { stood := { row := fnExactTileUpUptoRow, standIns := [], harness := (true, "156a01aca6c4d1a8ab5328d4decec17f63116d3bce6f87e6ec0f5479a17eee40"), looks := false }, kinds := [], alts := [], laidByText := true, laidKinds := [.data], laidTests := true, laidLooks := .later }
def FnExactTileUpUptoCardSaid : Prop := Claim7.holds Tryd.pinned (.plain (OpenSpec.upto fnExactTileUpSpec)) fnExactTileUpUptoCard

/-- THE SECOND FORM's CARD OF 'laws.FnExactTileDown'. -/
def fnExactTileDownUptoCard : Claim7 := { stood := { row := fnExactTileDownUptoRow, standIns := [], harness := (true, "156a01aca6c4d1a8ab5328d4decec17f63116d3bce6f87e6ec0f5479a17eee40"), looks := false }, kinds := [], alts := [], laidByText := true, laidKinds := [.data], laidTests := true, laidLooks := .later }
def FnExactTileDownUptoCardSaid : Prop := Claim7.holds Tryd.pinned (.plain (OpenSpec.upto fnExactTileDownSpec)) fnExactTileDownUptoCard

/-- THE SECOND FORM's CARD OF 'laws.FnExactTileKey'. -/
def fnExactTileKeyUptoCard : Claim7 := { stood := { row := fnExactTileKeyUptoRow, standIns := [], harness := (true, "156a01aca6c4d1a8ab5328d4decec17f63116d3bce6f87e6ec0f5479a17eee40"), looks := false }, kinds := [], alts := [], laidByText := true, laidKinds := [.data], laidTests := true, laidLooks := .later }
def FnExactTileKeyUptoCardSaid : Prop := Claim7.holds Tryd.pinned (.plain (OpenSpec.upto fnExactTileKeySpec)) fnExactTileKeyUptoCard

/-- THE SECOND FORM's CARD OF 'laws.FnExactTileOf'. -/
def fnExactTileOfUptoCard : Claim7 := { stood := { row := fnExactTileOfUptoRow, standIns := [], harness := (true, "156a01aca6c4d1a8ab5328d4decec17f63116d3bce6f87e6ec0f5479a17eee40"), looks := false }, kinds := [], alts := [], laidByText := true, laidKinds := [.data], laidTests := true, laidLooks := .later }
def FnExactTileOfUptoCardSaid : Prop := Claim7.holds Tryd.pinned (.plain (OpenSpec.upto fnExactTileOfSpec)) fnExactTileOfUptoCard
end Rows
end Go.Proofs.YtncnppkpkemajaaDoor
