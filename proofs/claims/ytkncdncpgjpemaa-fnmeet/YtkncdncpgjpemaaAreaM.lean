/- What points go around: turned, moved and from another point on. -/
import Derived.Test.YtkncdncpgjpemaaArea
namespace Go.Proofs.Ytkncdncpgjpemaa
open Go.RowKit
/-- The first i of a list that is told by its numbers. -/
def tk (f : Nat → Int × Int) (i : Nat) : List (Int × Int) := (List.range i).map f
theorem tk_next (f : Nat → Int × Int) (i : Nat) : tk f (i + 1) = tk f i ++ [f i] := by simp [tk, List.range_succ]
theorem tk_len (f : Nat → Int × Int) (i : Nat) : (tk f i).length = i := by simp [tk]
theorem tk_getD (f : Nat → Int × Int) (i k : Nat) (h : k < i) : (tk f i).getD k (0, 0) = f k := by simp [tk, h]
def fM (ps : List (Int × Int)) (dx dy : Int) (j : Nat) : Int × Int := ((ps.getD j (0, 0)).1 + dx, (ps.getD j (0, 0)).2 + dy)
end Go.Proofs.Ytkncdncpgjpemaa
