/- Points and boxes that are drawn: each comes to some numbers, and nothing but the cursor is turned. -/
import Derived.Test.YtdhdfgobefapiaaDoorDraw
import Derived.Test.YtdhdfgobefapiaaDoorGeo4
namespace Go.Proofs.YtdhdfgobefapiaaDoor
open Go.RowKit
set_option linter.unusedVariables false
theorem keepset3 {w : World} {p q : Addr} {v u : Value} (h : w.cell? p = some v) (hne : q.block ≠ p.block) : (w.setCell q u).cell? p = some v := by
  rw [World.cell?_setCell_far _ _ _ _ hne]; exact h
theorem CodeAt.set {w : World} {a : Option Addr} {len p : Nat} (h : CodeAt w a len p) {n k : Nat} (hn : p ≤ n) (u : Value) : CodeAt (w.setCell ⟨n, k, none⟩ u) a len p := by
  obtain ⟨hl, h⟩ := h
  refine ⟨hl, ?_⟩
  rcases h with h | ⟨b, off, rfl, hb, h⟩
  · exact .inl h
  · refine .inr ⟨b, off, rfl, hb, fun k hk => ?_⟩
    obtain ⟨z, z0, z1, hz⟩ := h k hk
    exact ⟨z, z0, z1, keepset3 hz (by simp; omega)⟩
end Go.Proofs.YtdhdfgobefapiaaDoor
