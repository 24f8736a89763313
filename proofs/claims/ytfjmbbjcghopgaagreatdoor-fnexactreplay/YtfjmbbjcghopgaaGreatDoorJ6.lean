/- Texts of stores, joined: Rows3. -/
import Derived.Test.YtfjmbbjcghopgaaGreatDoorJ4
import Derived.Test.YtfjmbbjcghopgaaGreatDoorJ5
namespace Go.Proofs.YtfjmbbjcghopgaaGreatDoor
open Go.RowKit
set_option linter.unusedVariables false
set_option linter.unusedSimpArgs false
theorem row_self {w' : World} {B : Nat} {v' : Value} {l : List (Int × Int)} {x y : Int} (h : w'.ownsRow B 86 2 v' (l.length + 1) (flat2 l ++ [.int .i64 x, .int .i64 y])) : PtRow w' B v' (l ++ [(x, y)]) := by
  unfold PtRow; rw [flat2_snoc]; simpa using h
end Go.Proofs.YtfjmbbjcghopgaaGreatDoor
