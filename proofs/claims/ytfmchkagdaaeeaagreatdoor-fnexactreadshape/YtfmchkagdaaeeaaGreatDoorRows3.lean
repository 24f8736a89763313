/- Lists of points that grow beside each other; a byte of the code. -/
import Derived.Test.YtfmchkagdaaeeaaGreatDoorDrawL
import Derived.Test.YtfmchkagdaaeeaaGreatDoorAreaM
namespace Go.Proofs.YtfmchkagdaaeeaaGreatDoor
open Go.RowKit
set_option linter.unusedVariables false
set_option linter.unusedSimpArgs false
theorem row_self {w' : World} {B : Nat} {v' : Value} {l : List (Int × Int)} {x y : Int} (h : w'.ownsRow B 41 2 v' (l.length + 1) (flat2 l ++ [.int .i64 x, .int .i64 y])) : PtRow w' B v' (l ++ [(x, y)]) := by
  unfold PtRow; rw [flat2_snoc]; simpa using h
end Go.Proofs.YtfmchkagdaaeeaaGreatDoor
