/- Shapes: what kind of figure stands for one, and the small ones. -/
import Derived.Test.YtdhdfgobefapiaaDoorRing2
import Derived.Test.YtdhdfgobefapiaaDoorGeo
import Derived.Test.YtdhdfgobefapiaaDoorGeo4
namespace Go.Proofs.YtdhdfgobefapiaaDoor
open Go.RowKit
set_option linter.unusedSimpArgs false
set_option linter.unusedVariables false
/-- A shape's value: its kind and its list of points. -/
abbrev shv (k : Int) (a : Option Addr) (n cap : Nat) : Value := .agg #[.int .i64 k, .slice a n cap]
end Go.Proofs.YtdhdfgobefapiaaDoor
