/- Boxes: the landed functions and the specification's, at any boxes. -/
import Derived.Test.YtnaobljoopjhgaaGreatGeo2
import Derived.Test.YtnaobljoopjhgaaGreatGeo4
namespace Go.Proofs.YtnaobljoopjhgaaGreat
open Go.RowKit
set_option linter.unusedSimpArgs false
set_option linter.unusedVariables false
theorem bok_le {a b c d : Int} (h : bok a b c d = true) : In a ∧ In b ∧ In c ∧ In d ∧ a ≤ c ∧ b ≤ d := by
  simp only [bok, cok, Bool.and_eq_true, decide_eq_true_eq] at h
  obtain ⟨⟨⟨⟨⟨h1, h2⟩, h3⟩, h4⟩, h5⟩, h6⟩ := h
  exact ⟨h1, h2, h3, h4, h5, h6⟩
def meetb (a b c d e f g h : Int) : Bool := decide (a ≤ g) && decide (e ≤ c) && decide (b ≤ h) && decide (f ≤ d)
end Go.Proofs.YtnaobljoopjhgaaGreat
