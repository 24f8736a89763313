/- Texts of stores, joined: DrawT. -/
import Derived.Test.YtldeknphfddlfaaGreatDoorJ4
namespace Go.Proofs.YtldeknphfddlfaaGreatDoor
open Go.RowKit
set_option linter.unusedVariables false
set_option linter.unusedSimpArgs false
end Go.Proofs.YtldeknphfddlfaaGreatDoor
