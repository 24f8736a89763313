/- Texts of stores, joined: Geo10. -/
import Derived.Test.YtfjmbbjcghopgaaGreatDoorJ11
import Derived.Test.YtfjmbbjcghopgaaGreatDoorJ3
namespace Go.Proofs.YtfjmbbjcghopgaaGreatDoor
open Go.RowKit
set_option linter.unusedSimpArgs false
set_option linter.unusedVariables false
theorem keepheap {w w' : World} (hb : Below w.heap.size w w') {b : Nat} {o : Obj} (h : w.heap[b]? = some o) : w'.heap[b]? = some o := by
  rw [hb.block b (lt_of_block h)]; exact h
theorem keepset {w : World} {p q : Addr} {v u : Value} (h : w.cell? p = some v) (hne : q.block ≠ p.block) : (w.setCell q u).cell? p = some v := by
  rw [World.cell?_setCell_far _ _ _ _ hne]; exact h
end Go.Proofs.YtfjmbbjcghopgaaGreatDoor
