/- Whether the sides of a ring keep apart: the landed function. -/
import Derived.Test.YtkifhdkebddnpaaSide
namespace Go.Proofs.Ytkifhdkebddnpaa
open Go.RowKit
set_option linter.unusedSimpArgs false
set_option linter.unusedVariables false
def farq (n i : Nat) : Nat := if i = 0 then n - 1 else n
def innerTo (qs : List Sd) (i : Nat) : Nat → Bool
  | 0 => true
  | m + 1 => innerTo qs i m && !meetq (qs.getD i (0, 0, 0, 0)) (qs.getD (i + 2 + m) (0, 0, 0, 0))
def apartTo (qs : List Sd) : Nat → Bool
  | 0 => true
  | i + 1 => apartTo qs i && (!foldq (qs.getD i (0, 0, 0, 0)) (qs.getD ((i + 1) % qs.length) (0, 0, 0, 0)) && innerTo qs i (farq qs.length i - (i + 2)))
theorem inner_step {qs : List Sd} {i j : Nat} (h : i + 2 ≤ j) : innerTo qs i (j + 1 - (i + 2)) = (innerTo qs i (j - (i + 2)) && !meetq (qs.getD i (0, 0, 0, 0)) (qs.getD j (0, 0, 0, 0))) := by
  rw [show j + 1 - (i + 2) = (j - (i + 2)) + 1 by omega, innerTo, show i + 2 + (j - (i + 2)) = j by omega]
theorem inner_at {qs : List Sd} {i m n : Nat} (h : innerTo qs i n = true) (e : m = n) : innerTo qs i m = true := by rw [e]; exact h
theorem inner_mono {qs : List Sd} {i k : Nat} (h : innerTo qs i k = false) : ∀ m, k ≤ m → innerTo qs i m = false
  | 0, hm => by obtain rfl : k = 0 := by omega
                exact h
  | m + 1, hm => by
    by_cases e : k = m + 1
    · subst e; exact h
    · rw [innerTo, inner_mono h m (by omega)]; rfl
theorem apart_mono {qs : List Sd} {k : Nat} (h : apartTo qs k = false) : ∀ m, k ≤ m → apartTo qs m = false
  | 0, hm => by obtain rfl : k = 0 := by omega
                exact h
  | m + 1, hm => by
    by_cases e : k = m + 1
    · subst e; exact h
    · rw [apartTo, apart_mono h m (by omega)]; rfl
end Go.Proofs.Ytkifhdkebddnpaa
