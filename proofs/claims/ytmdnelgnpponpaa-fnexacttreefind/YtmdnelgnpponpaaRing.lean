/- What is inside of what points go around: the landed functions. -/
import Derived.Test.YtmdnelgnpponpaaArea
import Derived.Test.YtmdnelgnpponpaaGeo5
namespace Go.Proofs.Ytmdnelgnpponpaa
open Go.RowKit
set_option linter.unusedSimpArgs false
set_option linter.unusedVariables false
/-- Whether the level way from p to the far right crosses the side from a to b. -/
def wayb (px py ax ay bx bY : Int) : Bool := if bY < ay then (decide (bY ≤ py) && decide (py < ay) && decide (0 < cr bx bY ax ay px py)) else (decide (ay ≤ py) && decide (py < bY) && decide (0 < cr ax ay bx bY px py))
theorem sg_pos (z : Int) : decide (0 < sg z) = decide (0 < z) := by
  unfold sg
  split
  · rw [decide_eq_false (by omega), decide_eq_false (by omega)]
  · split
    · rw [decide_eq_true (by omega), decide_eq_true (by omega)]
    · rw [decide_eq_false (by omega), decide_eq_false (by omega)]
def sideOn (px py : Int) (ps : List (Int × Int)) (k : Nat) : Bool := onb px py (ps.getD k (0, 0)).1 (ps.getD k (0, 0)).2 (nxt ps k).1 (nxt ps k).2
def sideCr (px py : Int) (ps : List (Int × Int)) (k : Nat) : Bool := wayb px py (ps.getD k (0, 0)).1 (ps.getD k (0, 0)).2 (nxt ps k).1 (nxt ps k).2
def oddTo (px py : Int) (ps : List (Int × Int)) : Nat → Bool
  | 0 => false
  | k + 1 => oddTo px py ps k != sideCr px py ps k
def b2i (b : Bool) : Int := if b then 1 else 0
def ringv (px py : Int) (ps : List (Int × Int)) : Int := if (List.range ps.length).any (sideOn px py ps) = true then 2 else b2i (oddTo px py ps ps.length)
theorem ringv_on {px py : Int} {ps : List (Int × Int)} {k : Nat} (hk : k < ps.length) (h : sideOn px py ps k = true) : ringv px py ps = 2 := by
  unfold ringv
  rw [if_pos]
  rw [List.any_eq_true]
  exact ⟨k, by simpa using hk, h⟩
theorem ringv_off {px py : Int} {ps : List (Int × Int)} (h : ∀ j, j < ps.length → sideOn px py ps j = false) : ringv px py ps = b2i (oddTo px py ps ps.length) := by
  unfold ringv
  rw [if_neg]
  rw [List.any_eq_true]
  rintro ⟨j, hj, h2⟩
  rw [h j (by simpa using hj)] at h2
  cases h2
end Go.Proofs.Ytmdnelgnpponpaa
