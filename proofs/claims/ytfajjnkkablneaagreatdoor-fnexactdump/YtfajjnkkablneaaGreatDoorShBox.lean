/- The box of a shape, and whether a shape is in a box. -/
import Derived.Test.YtfajjnkkablneaaGreatDoorShLaw
import Derived.Test.YtfajjnkkablneaaGreatDoorGeo9
namespace Go.Proofs.YtfajjnkkablneaaGreatDoor
open Go.RowKit
set_option linter.unusedSimpArgs false
set_option linter.unusedVariables false
def sv (f : List (Int × Int) → Int) (k : Int) (ps : List (Int × Int)) : Int := if shok k ps = true then f ps else 0
def hasv (a b c d e f g h : Int) : Bool := bok a b c d && bok e f g h && hasbx a b c d e f g h
end Go.Proofs.YtfajjnkkablneaaGreatDoor
