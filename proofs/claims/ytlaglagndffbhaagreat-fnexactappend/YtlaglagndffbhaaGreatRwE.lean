/- Rows held one against the other. -/
import Derived.Test.YtlaglagndffbhaaGreatRw
import Derived.Deep.RegionHeld3
namespace Go.Proofs.YtlaglagndffbhaaGreat
open Go.RowKit
set_option linter.unusedSimpArgs false
set_option linter.unusedVariables false
end Go.Proofs.YtlaglagndffbhaaGreat
