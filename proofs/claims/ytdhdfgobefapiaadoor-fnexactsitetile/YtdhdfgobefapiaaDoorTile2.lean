/- Chapter 5's small functions: TileBox, TileUp, TileKey, TileOf of both sides. -/
import Derived.Test.YtdhdfgobefapiaaDoorTile
import Derived.Test.YtdhdfgobefapiaaDoorGeo4
import Derived.BigQuiet
namespace Go.Proofs.YtdhdfgobefapiaaDoor
open Go.RowKit
set_option linter.unusedSimpArgs false
set_option linter.unusedVariables false
theorem tok_parts {l c r : Int} (h : tok l c r = true) : ∃ k : Nat, l = k ∧ k ≤ 8 ∧ 0 ≤ c ∧ c < cols k ∧ 0 ≤ r ∧ r < cols k := by
  simp only [tok, plok, Bool.and_eq_true, decide_eq_true_eq] at h
  obtain ⟨⟨h1, h2⟩, h3⟩ := h
  obtain ⟨k, rfl, hk⟩ := lok_nat h1
  exact ⟨k, rfl, hk, h2.1, h2.2, h3.1, h3.2⟩
theorem cellT {w : World} {p : Nat} {a b c : Value} {t : TypeId} (h : w.heap[p]? = some (.cells #[a, b, c] t (0, 0))) : w.cell? ⟨p, 0, none⟩ = some a ∧ w.cell? ⟨p, 1, none⟩ = some b ∧ w.cell? ⟨p, 2, none⟩ = some c ∧ w.frozen? ⟨p, 0, none⟩ = false ∧ w.frozen? ⟨p, 1, none⟩ = false ∧ w.frozen? ⟨p, 2, none⟩ = false := by
  refine ⟨?_, ?_, ?_, ?_, ?_, ?_⟩ <;> simp [World.cell?, World.frozen?, h]
end Go.Proofs.YtdhdfgobefapiaaDoor
