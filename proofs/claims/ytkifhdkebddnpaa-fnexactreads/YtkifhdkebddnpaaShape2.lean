/- Shapes: lines and rectangles, the landed ones and the specification's. -/
import Derived.Test.YtkifhdkebddnpaaShape
import Derived.BigQuiet
import Derived.Deep.QuietTactic
namespace Go.Proofs.Ytkifhdkebddnpaa
open Go.RowKit
set_option linter.unusedSimpArgs false
set_option linter.unusedVariables false
theorem beldrew {w a : World} (h : Below w.heap.size w a) (n : Nat) : Below w.heap.size w (a.drewN n) := ⟨h.os, h.tape, h.output, h.size, h.block⟩
def rectb (ps : List (Int × Int)) : Bool := decide (ps.length = 2) && (decide ((ps.getD 0 (0, 0)).1 ≤ (ps.getD 1 (0, 0)).1) && decide ((ps.getD 0 (0, 0)).2 ≤ (ps.getD 1 (0, 0)).2))
theorem len2 {ps : List (Int × Int)} (h : ps.length = 2) : ∃ x y u v, ps = [(x, y), (u, v)] := by
  match ps, h with
  | [(x, y), (u, v)], _ => exact ⟨x, y, u, v, rfl⟩
theorem bok_rect (x y u v : Int) : bok x y u v = (rectb [(x, y), (u, v)] && allok [(x, y), (u, v)]) := by
  simp only [bok, rectb, allok, pok, List.length_cons, List.length_nil, List.getD_cons_zero, List.getD_cons_succ, List.all_cons, List.all_nil]
  cases cok x <;> cases cok y <;> cases cok u <;> cases cok v <;> simp
end Go.Proofs.Ytkifhdkebddnpaa
