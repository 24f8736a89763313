/- Chapter 5's small functions: TileBox, TileUp, TileKey, TileOf of both sides. -/
import Derived.Test.YtihjkllcjppoaaaDoorTile
import Derived.Test.YtihjkllcjppoaaaDoorGeo4
import Derived.BigQuiet
namespace Go.Proofs.YtihjkllcjppoaaaDoor
open Go.RowKit
set_option linter.unusedSimpArgs false
set_option linter.unusedVariables false
theorem tok_parts {l c r : Int} (h : tok l c r = true) : ∃ k : Nat, l = k ∧ k ≤ 8 ∧ 0 ≤ c ∧ c < cols k ∧ 0 ≤ r ∧ r < cols k := by
  simp only [tok, plok, Bool.and_eq_true, decide_eq_true_eq] at h
  obtain ⟨⟨h1, h2⟩, h3⟩ := h
  obtain ⟨k, rfl, hk⟩ := lok_nat h1
  exact ⟨k, rfl, hk, h2.1, h2.2, h3.1, h3.2⟩
theorem mul_in {k : Nat} (hk : k ≤ 8) {c : Int} (h0 : 0 ≤ c) (h1 : c < cols k) : 0 ≤ c * sid k ∧ c * sid k ≤ 65280 := by
  obtain ⟨s1, s2, s3, c1, c2, _, _⟩ := sid_bounds k hk
  refine ⟨Int.mul_nonneg h0 (by omega), ?_⟩
  have h2 : c * sid k ≤ (cols k - 1) * sid k := Int.mul_le_mul_of_nonneg_right (by omega) (by omega)
  rw [Int.sub_mul, Int.mul_comm (cols k) _, s3] at h2
  omega
/-- The four bounds of a tile; noughts of none. -/
def tbx (l c r : Int) : Int := if tok l c r then -32768 + c * sid l else 0
def tby (l c r : Int) : Int := if tok l c r then -32768 + r * sid l else 0
def tbu (l c r : Int) : Int := if tok l c r then -32768 + c * sid l + sid l - 1 else 0
def tbv (l c r : Int) : Int := if tok l c r then -32768 + r * sid l + sid l - 1 else 0
def upok (l c r : Int) : Bool := tok l c r && !decide (l = 0)
def upl (l c r : Int) : Int := if upok l c r then l - 1 else 0
def upc (l c r : Int) : Int := if upok l c r then c / 2 else 0
def upr (l c r : Int) : Int := if upok l c r then r / 2 else 0
theorem cellT {w : World} {p : Nat} {a b c : Value} {t : TypeId} (h : w.heap[p]? = some (.cells #[a, b, c] t (0, 0))) : w.cell? ⟨p, 0, none⟩ = some a ∧ w.cell? ⟨p, 1, none⟩ = some b ∧ w.cell? ⟨p, 2, none⟩ = some c ∧ w.frozen? ⟨p, 0, none⟩ = false ∧ w.frozen? ⟨p, 1, none⟩ = false ∧ w.frozen? ⟨p, 2, none⟩ = false := by
  refine ⟨?_, ?_, ?_, ?_, ?_, ?_⟩ <;> simp [World.cell?, World.frozen?, h]
theorem set3 {w1 : World} {B : Nat} {o0 o1 o2 : Value} {t : TypeId} (gz : w1.heap[B]? = some (.cells #[o0, o1, o2] t (0, 0))) (a b c : Value) :
    (((w1.setCell ⟨B, 0, none⟩ a).setCell ⟨B, 1, none⟩ b).setCell ⟨B, 2, none⟩ c).heap[B]? = some (.cells #[a, b, c] t (0, 0)) :=
  set_at (set_at (set_at gz))
end Go.Proofs.YtihjkllcjppoaaaDoor
