/- What points go around: turned, moved and from another point on. -/
import Derived.Test.YtdhdfgobefapiaaDoorPts2
import Derived.Test.YtdhdfgobefapiaaDoorGeo3
namespace Go.Proofs.YtdhdfgobefapiaaDoor
open Go.RowKit
/-- The first i of a list that is told by its numbers. -/
def tk (f : Nat → Int × Int) (i : Nat) : List (Int × Int) := (List.range i).map f
end Go.Proofs.YtdhdfgobefapiaaDoor
