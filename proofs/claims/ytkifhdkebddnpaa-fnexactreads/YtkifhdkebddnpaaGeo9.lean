/- Areas, joins, and boxes in boxes. -/
import Derived.Test.YtkifhdkebddnpaaGeo7
namespace Go.Proofs.Ytkifhdkebddnpaa
open Go.RowKit
set_option linter.unusedSimpArgs false
set_option linter.unusedVariables false
def areav (a b c d : Int) : Int := if bok a b c d = true then (c - a) * (d - b) else 0
def hasbx (a b c d e f g h : Int) : Bool := decide (a ≤ e) && decide (g ≤ c) && decide (b ≤ f) && decide (h ≤ d)
theorem has_same {a b c d e f g h : Int} (h1 : e ≤ g) (h2 : f ≤ h) : (hasb a b c d e f && hasb a b c d g h) = hasbx a b c d e f g h := by
  rw [Bool.eq_iff_iff]
  simp only [hasb, hasbx, Bool.and_eq_true, decide_eq_true_eq]
  omega
end Go.Proofs.Ytkifhdkebddnpaa
