/- Chapter 5's small functions: TileKey, TileOf of both sides; what the laws hold of tiles. -/
import Derived.Test.YtkifhdkebddnpaaGreatDoorRTile2
import Derived.Deep.QuietTactic
import Derived.BigQuiet
namespace Go.Proofs.YtkifhdkebddnpaaGreatDoorR
open Go.RowKit
set_option linter.unusedSimpArgs false
set_option linter.unusedVariables false
def tkey (l c r : Int) : Int := if tok l c r then 16 * ((Tm.S 16 c.toNat + 2 * Tm.S 16 r.toNat : Nat) : Int) + l else -1
def ofok (x y l : Int) : Bool := pok x y && lok l
def ofl (x y l : Int) : Int := if ofok x y l then l else 0
def ofc (x y l : Int) : Int := if ofok x y l then (x + 32768) / sid l else 0
def ofr (x y l : Int) : Int := if ofok x y l then (y + 32768) / sid l else 0
theorem bdrewN {w a : World} (h : Below w.heap.size w a) {n : Nat} : Below w.heap.size w (a.drewN n) := ⟨h.1, h.2, h.3, h.4, h.5⟩
end Go.Proofs.YtkifhdkebddnpaaGreatDoorR
