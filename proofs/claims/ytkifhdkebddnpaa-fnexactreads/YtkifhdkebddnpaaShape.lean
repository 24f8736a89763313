/- Shapes: what kind of figure stands for one, and the small ones. -/
import Derived.Test.YtkifhdkebddnpaaAround
import Derived.Test.YtkifhdkebddnpaaGeo7
namespace Go.Proofs.Ytkifhdkebddnpaa
open Go.RowKit
set_option linter.unusedSimpArgs false
set_option linter.unusedVariables false
/-- A shape's value: its kind and its list of points. -/
abbrev shv (k : Int) (a : Option Addr) (n cap : Nat) : Value := .agg #[.int .i64 k, .slice a n cap]
/-- Each of the first k points differs from the one behind it. -/
def diffTo (ps : List (Int × Int)) : Nat → Bool
  | 0 => true
  | k + 1 => diffTo ps k && !((ps.getD k (0, 0)).1 == (ps.getD (k + 1) (0, 0)).1 && (ps.getD k (0, 0)).2 == (ps.getD (k + 1) (0, 0)).2)
def lineb (ps : List (Int × Int)) : Bool := decide (2 ≤ ps.length) && decide (ps.length ≤ 60) && diffTo ps (ps.length - 1)
theorem diff_mono {ps : List (Int × Int)} {k : Nat} (h : diffTo ps k = false) : ∀ m, k ≤ m → diffTo ps m = false
  | 0, hm => by obtain rfl : k = 0 := by omega
                exact h
  | m + 1, hm => by
    by_cases e : k = m + 1
    · subst e; exact h
    · rw [diffTo, diff_mono h m (by omega)]; rfl
end Go.Proofs.Ytkifhdkebddnpaa
