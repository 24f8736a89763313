/- Points on sides, and sides that meet. -/
import Derived.Test.YtmdnelgnpponpaaGeo4
namespace Go.Proofs.Ytmdnelgnpponpaa
open Go.RowKit
set_option linter.unusedSimpArgs false
set_option linter.unusedVariables false
/-- Whether p is on the side from a to b. -/
def onb (px py ax ay bx bY : Int) : Bool := decide (cr ax ay bx bY px py = 0) && hasb (min ax bx) (min ay bY) (max ax bx) (max ay bY) px py
theorem sg_zero (z : Int) : (sg z == 0) = decide (z = 0) := by
  unfold sg
  split
  · rw [decide_eq_false (by omega)]; rfl
  · split
    · rw [decide_eq_false (by omega)]; rfl
    · rw [decide_eq_true (by omega)]; rfl
theorem mul1 (x y : Int) (h1 : -1 ≤ x ∧ x ≤ 1) (h2 : -1 ≤ y ∧ y ≤ 1) : -1 ≤ x * y ∧ x * y ≤ 1 := by
  have hx : x = -1 ∨ x = 0 ∨ x = 1 := by omega
  rcases hx with rfl | rfl | rfl <;> omega
/-- Whether two sides cross between their ends. -/
def crossb (ax ay bx bY cx cy dx dy : Int) : Bool := decide (sg (cr ax ay bx bY cx cy) * sg (cr ax ay bx bY dx dy) < 0) && decide (sg (cr cx cy dx dy ax ay) * sg (cr cx cy dx dy bx bY) < 0)
def smeet (ax ay bx bY cx cy dx dy : Int) : Bool := crossb ax ay bx bY cx cy dx dy || (onb cx cy ax ay bx bY || onb dx dy ax ay bx bY || onb ax ay cx cy dx dy || onb bx bY cx cy dx dy)
end Go.Proofs.Ytmdnelgnpponpaa
