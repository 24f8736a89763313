/- The specification's l11Tile. -/
import Derived.Test.YtdhdfgobefapiaaDoorKe
namespace Go.Proofs.YtdhdfgobefapiaaDoor
open Go.RowKit
set_option linter.unusedSimpArgs false
set_option linter.unusedVariables false
theorem keepheapK {w w' : World} (hb : Below w.heap.size w w') {b : Nat} {o : Obj} (h : w.heap[b]? = some o) : w'.heap[b]? = some o := by
  rw [hb.block b (Array.getElem?_eq_some_iff.1 h).1]; exact h
end Go.Proofs.YtdhdfgobefapiaaDoor
