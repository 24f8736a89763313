/- Whether points make a polygon: the specification's. -/
import Derived.Test.YtkifhdkebddnpaaSide2
namespace Go.Proofs.Ytkifhdkebddnpaa
open Go.RowKit
set_option linter.unusedSimpArgs false
set_option linter.unusedVariables false
def badc (n i k : Nat) (x y u v z t p q : Int) : Bool := if k = i + 1 then (onb p q x y u v || onb x y z t p q) else if i = 0 ∧ k = n - 1 then (onb z t x y u v || onb u v z t p q) else smeet x y u v z t p q
def specC (ps : List (Int × Int)) (i k : Nat) : Bool := badc ps.length i k (ps.getD i (0, 0)).1 (ps.getD i (0, 0)).2 (nxt ps i).1 (nxt ps i).2 (ps.getD k (0, 0)).1 (ps.getD k (0, 0)).2 (nxt ps k).1 (nxt ps k).2
def specIn (ps : List (Int × Int)) (i : Nat) : Nat → Bool
  | 0 => true
  | m + 1 => specIn ps i m && !specC ps i (i + 1 + m)
def specTo (ps : List (Int × Int)) : Nat → Bool
  | 0 => true
  | i + 1 => specTo ps i && (!((ps.getD i (0, 0)).1 == (nxt ps i).1 && (ps.getD i (0, 0)).2 == (nxt ps i).2) && specIn ps i (ps.length - (i + 1)))
def ringOk (ps : List (Int × Int)) : Bool := decide (3 ≤ ps.length) && decide (ps.length ≤ 60) && decide (0 < area2 ps) && specTo ps ps.length
theorem specIn_step {ps : List (Int × Int)} {i j : Nat} (h : i + 1 ≤ j) : specIn ps i (j + 1 - (i + 1)) = (specIn ps i (j - (i + 1)) && !specC ps i j) := by
  rw [show j + 1 - (i + 1) = (j - (i + 1)) + 1 by omega, specIn, show i + 1 + (j - (i + 1)) = j by omega]
theorem specIn_at {ps : List (Int × Int)} {i m n : Nat} (h : specIn ps i n = true) (e : m = n) : specIn ps i m = true := by rw [e]; exact h
theorem specIn_mono {ps : List (Int × Int)} {i k : Nat} (h : specIn ps i k = false) : ∀ m, k ≤ m → specIn ps i m = false
  | 0, hm => by obtain rfl : k = 0 := by omega
                exact h
  | m + 1, hm => by
    by_cases e : k = m + 1
    · subst e; exact h
    · rw [specIn, specIn_mono h m (by omega)]; rfl
theorem spec_mono {ps : List (Int × Int)} {k : Nat} (h : specTo ps k = false) : ∀ m, k ≤ m → specTo ps m = false
  | 0, hm => by obtain rfl : k = 0 := by omega
                exact h
  | m + 1, hm => by
    by_cases e : k = m + 1
    · subst e; exact h
    · rw [specTo, spec_mono h m (by omega)]; rfl
end Go.Proofs.Ytkifhdkebddnpaa
