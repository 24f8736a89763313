/- The join of two boxes. -/
import Derived.Test.YtnajddjalagmoaaGreatDoorGeo2
import Derived.Test.YtnajddjalagmoaaGreatDoorGeo4
namespace Go.Proofs.YtnajddjalagmoaaGreatDoor
open Go.RowKit
set_option linter.unusedSimpArgs false
set_option linter.unusedVariables false
theorem keepset {w : World} {p q : Addr} {v u : Value} (h : w.cell? p = some v) (hne : q.block ≠ p.block) : (w.setCell q u).cell? p = some v := by
  rw [World.cell?_setCell_far _ _ _ _ hne]; exact h
end Go.Proofs.YtnajddjalagmoaaGreatDoor
