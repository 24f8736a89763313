/- PyramidOk of both sides. -/
import Derived.Test.YtdhdfgobefapiaaDoorKf
namespace Go.Proofs.YtdhdfgobefapiaaDoor
open Go.RowKit
set_option linter.unusedSimpArgs false
set_option linter.unusedVariables false
/-- The keys are numbers of 64 bits. -/
def KsIn (ps : List (Int × Int)) : Prop := ∀ i, i < ps.length → i64ok (ps.getD i (0, 0)).1
end Go.Proofs.YtdhdfgobefapiaaDoor
