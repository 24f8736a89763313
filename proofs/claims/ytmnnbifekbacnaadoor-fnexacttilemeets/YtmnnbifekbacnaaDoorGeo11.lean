/- The landed join of two boxes. -/
import Derived.Test.YtmnnbifekbacnaaDoorGeo10
namespace Go.Proofs.YtmnnbifekbacnaaDoor
open Go.RowKit
set_option linter.unusedSimpArgs false
set_option linter.unusedVariables false
theorem keephdrew {w : World} {b : Nat} {o : Obj} (h : w.heap[b]? = some o) : w.drew.heap[b]? = some o := h
end Go.Proofs.YtmnnbifekbacnaaDoor
