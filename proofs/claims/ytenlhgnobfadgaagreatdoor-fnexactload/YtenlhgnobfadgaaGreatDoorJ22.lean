/- Texts of stores, joined: Geo7, Geo9, Geo10. -/
import Derived.Test.YtenlhgnobfadgaaGreatDoorJ21
import Derived.Test.YtenlhgnobfadgaaGreatDoorJ10
namespace Go.Proofs.YtenlhgnobfadgaaGreatDoor
open Go.RowKit
set_option linter.unusedSimpArgs false
set_option linter.unusedVariables false
theorem bok_le {a b c d : Int} (h : bok a b c d = true) : In a ∧ In b ∧ In c ∧ In d ∧ a ≤ c ∧ b ≤ d := by
  simp only [bok, cok, Bool.and_eq_true, decide_eq_true_eq] at h
  obtain ⟨⟨⟨⟨⟨h1, h2⟩, h3⟩, h4⟩, h5⟩, h6⟩ := h
  exact ⟨h1, h2, h3, h4, h5, h6⟩
def meetb (a b c d e f g h : Int) : Bool := decide (a ≤ g) && decide (e ≤ c) && decide (b ≤ h) && decide (f ≤ d)
end Go.Proofs.YtenlhgnobfadgaaGreatDoor
namespace Go.Proofs.YtenlhgnobfadgaaGreatDoor
open Go.RowKit
set_option linter.unusedSimpArgs false
set_option linter.unusedVariables false
def areav (a b c d : Int) : Int := if bok a b c d = true then (c - a) * (d - b) else 0
def hasbx (a b c d e f g h : Int) : Bool := decide (a ≤ e) && decide (g ≤ c) && decide (b ≤ f) && decide (h ≤ d)
theorem has_same {a b c d e f g h : Int} (h1 : e ≤ g) (h2 : f ≤ h) : (hasb a b c d e f && hasb a b c d g h) = hasbx a b c d e f g h := by
  rw [Bool.eq_iff_iff]
  simp only [hasb, hasbx, Bool.and_eq_true, decide_eq_true_eq]
  omega
theorem low_b (a b c d : Int) (w : World) : Calls Tryz.prog 250 #[.agg #[.int .i64 a, .int .i64 b, .int .i64 c, .int .i64 d]] w fun e w' => e = .returned (.agg #[.int .i64 a, .int .i64 b]) ∧ Below w.heap.size w w' :=
  (impl_low a b c d w).mono fun e w' ⟨h1, h2⟩ => ⟨h1, by subst h2; exact balloc (balloc (Below.refl _ _) _) _⟩
theorem high_b (a b c d : Int) (w : World) : Calls Tryz.prog 251 #[.agg #[.int .i64 a, .int .i64 b, .int .i64 c, .int .i64 d]] w fun e w' => e = .returned (.agg #[.int .i64 c, .int .i64 d]) ∧ Below w.heap.size w w' :=
  (impl_high a b c d w).mono fun e w' ⟨h1, h2⟩ => ⟨h1, by subst h2; exact balloc (balloc (Below.refl _ _) _) _⟩
end Go.Proofs.YtenlhgnobfadgaaGreatDoor
namespace Go.Proofs.YtenlhgnobfadgaaGreatDoor
open Go.RowKit
set_option linter.unusedSimpArgs false
set_option linter.unusedVariables false
theorem keepheap {w w' : World} (hb : Below w.heap.size w w') {b : Nat} {o : Obj} (h : w.heap[b]? = some o) : w'.heap[b]? = some o := by
  rw [hb.block b (lt_of_block h)]; exact h
theorem keepset {w : World} {p q : Addr} {v u : Value} (h : w.cell? p = some v) (hne : q.block ≠ p.block) : (w.setCell q u).cell? p = some v := by
  rw [World.cell?_setCell_far _ _ _ _ hne]; exact h
end Go.Proofs.YtenlhgnobfadgaaGreatDoor
