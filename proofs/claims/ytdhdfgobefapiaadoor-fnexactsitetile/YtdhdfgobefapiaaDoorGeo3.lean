/- Turns and sides: the small functions that the landed text and the specification reckon with. -/
import Derived.Test.YtdhdfgobefapiaaDoorGeo
namespace Go.Proofs.YtdhdfgobefapiaaDoor
open Go.RowKit
set_option linter.unusedSimpArgs false
set_option linter.unusedVariables false
/-- A coordinate, as bounds. -/
def In (x : Int) : Prop := -30000 ≤ x ∧ x ≤ 30000
end Go.Proofs.YtdhdfgobefapiaaDoor
