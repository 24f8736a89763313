/- Whether a figure has a point: the landed ones, and ShapeHas. -/
import Derived.Test.YtlaglagndffbhaaGreatHas
namespace Go.Proofs.YtlaglagndffbhaaGreat
open Go.RowKit
set_option linter.unusedSimpArgs false
set_option linter.unusedVariables false
theorem ok_b (x y : Int) (w : World) : Calls Tryz.prog 108 #[.agg #[.int .i64 x, .int .i64 y]] w fun e w' => e = .returned (.bool (pok x y)) ∧ Below w.heap.size w w' :=
  (impl_ok x y w).mono fun e w' ⟨h1, h2⟩ => ⟨h1, by subst h2; exact balloc (Below.refl _ _) _⟩
end Go.Proofs.YtlaglagndffbhaaGreat
