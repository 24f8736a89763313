/- Areas, joins, and boxes in boxes. -/
import Derived.Test.YtmdnelgnpponpaaGeo7
namespace Go.Proofs.Ytmdnelgnpponpaa
open Go.RowKit
set_option linter.unusedSimpArgs false
set_option linter.unusedVariables false
def areav (a b c d : Int) : Int := if bok a b c d = true then (c - a) * (d - b) else 0
def hasbx (a b c d e f g h : Int) : Bool := decide (a ≤ e) && decide (g ≤ c) && decide (b ≤ f) && decide (h ≤ d)
theorem has_same {a b c d e f g h : Int} (h1 : e ≤ g) (h2 : f ≤ h) : (hasb a b c d e f && hasb a b c d g h) = hasbx a b c d e f g h := by
  rw [Bool.eq_iff_iff]
  simp only [hasb, hasbx, Bool.and_eq_true, decide_eq_true_eq]
  omega
theorem low_b (a b c d : Int) (w : World) : Calls Try.prog 64 #[.agg #[.int .i64 a, .int .i64 b, .int .i64 c, .int .i64 d]] w fun e w' => e = .returned (.agg #[.int .i64 a, .int .i64 b]) ∧ Below w.heap.size w w' :=
  (impl_low a b c d w).mono fun e w' ⟨h1, h2⟩ => ⟨h1, by subst h2; exact balloc (balloc (Below.refl _ _) _) _⟩
theorem high_b (a b c d : Int) (w : World) : Calls Try.prog 65 #[.agg #[.int .i64 a, .int .i64 b, .int .i64 c, .int .i64 d]] w fun e w' => e = .returned (.agg #[.int .i64 c, .int .i64 d]) ∧ Below w.heap.size w w' :=
  (impl_high a b c d w).mono fun e w' ⟨h1, h2⟩ => ⟨h1, by subst h2; exact balloc (balloc (Below.refl _ _) _) _⟩
end Go.Proofs.Ytmdnelgnpponpaa
