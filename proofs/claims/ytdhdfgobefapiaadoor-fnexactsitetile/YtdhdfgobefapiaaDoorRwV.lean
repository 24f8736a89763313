/- Rows sorted. -/
import Derived.Test.YtdhdfgobefapiaaDoorRw0
import Derived.Test.YtdhdfgobefapiaaDoorRows
import Derived.Deep.RegionHeld3
import Derived.Sort.Grow
import Derived.WalkLawsBesides
import Derived.Shelf.SlSortCmp.WholeK
import Derived.Test.YtdhdfgobefapiaaDoorProg
namespace Go.Proofs.YtdhdfgobefapiaaDoor
open Go.RowKit Go.Shelf Go.Lib Go.Sort
set_option linter.unusedSimpArgs false
set_option linter.unusedVariables false
/-- A row's cells. -/
abbrev El : Type := Int × Int × Int × Int × Option Addr × Nat × Nat
end Go.Proofs.YtdhdfgobefapiaaDoor
