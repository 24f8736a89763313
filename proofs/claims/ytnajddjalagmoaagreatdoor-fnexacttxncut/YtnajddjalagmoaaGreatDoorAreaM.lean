/- What points go around: turned, moved and from another point on. -/
import Derived.Test.YtnajddjalagmoaaGreatDoorArea
namespace Go.Proofs.YtnajddjalagmoaaGreatDoor
open Go.RowKit
/-- The first i of a list that is told by its numbers. -/
def tk (f : Nat → Int × Int) (i : Nat) : List (Int × Int) := (List.range i).map f
theorem tk_len (f : Nat → Int × Int) (i : Nat) : (tk f i).length = i := by simp [tk]
theorem tk_getD (f : Nat → Int × Int) (i k : Nat) (h : k < i) : (tk f i).getD k (0, 0) = f k := by simp [tk, h]
end Go.Proofs.YtnajddjalagmoaaGreatDoor
