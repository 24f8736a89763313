/- The cursor over the bytes of a draw: what its byte comes to, and that it turns no memory but its own block. -/
import Derived.Test.YtdhdfgobefapiaaDoorRows
import Derived.WalkKit
import Derived.WalkSpells
import Derived.Handy
import Derived.BigQuiet
import Derived.Deep.QuietTactic
import Derived.Laws.BitsAllLaws
namespace Go.Proofs.YtdhdfgobefapiaaDoor
open Go.RowKit
/-- The bytes of a code that came in lie in a block below B. -/
def CodeAt (w : World) (a : Option Addr) (len B : Nat) : Prop :=
  len ≤ 1048576 ∧ (len = 0 ∨ ∃ b off, a = some ⟨b, off, none⟩ ∧ b < B ∧ ∀ k, k < len → ∃ z : Int, 0 ≤ z ∧ z ≤ 255 ∧ w.cell? ⟨b, off + k, none⟩ = some (.int .u8 z))
theorem CodeAt.below {w w' : World} {a : Option Addr} {len B : Nat} (h : CodeAt w a len B) (hb : Below B w w') : CodeAt w' a len B := by
  obtain ⟨hl, h⟩ := h
  refine ⟨hl, ?_⟩
  rcases h with h | ⟨b, off, rfl, hbb, h⟩
  · exact .inl h
  · refine .inr ⟨b, off, rfl, hbb, fun k hk => ?_⟩
    obtain ⟨z, z0, z1, hz⟩ := h k hk
    exact ⟨z, z0, z1, (hb.cell (p := ⟨b, off + k, none⟩) hbb).trans hz⟩
theorem CodeAt.mono {w : World} {a : Option Addr} {len B B' : Nat} (h : CodeAt w a len B) (hB : B ≤ B') : CodeAt w a len B' := by
  obtain ⟨hl, h⟩ := h
  refine ⟨hl, ?_⟩
  rcases h with h | ⟨b, off, rfl, hbb, h⟩
  · exact .inl h
  · exact .inr ⟨b, off, rfl, by omega, h⟩
end Go.Proofs.YtdhdfgobefapiaaDoor
