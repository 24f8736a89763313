/- Sides: of a ring, in memory, and whether they keep apart. -/
import Derived.Test.YtdhdfgobefapiaaDoorShape
import Derived.BigQuiet
import Derived.Deep.QuietTactic
namespace Go.Proofs.YtdhdfgobefapiaaDoor
open Go.RowKit
set_option linter.unusedSimpArgs false
set_option linter.unusedVariables false
/-- A side: from, to. -/
abbrev Sd : Type := Int × Int × Int × Int
def SdAt (w : World) (b off : Nat) (qs : List Sd) : Prop :=
  ∀ k, k < qs.length → w.cell? ⟨b, off + k * 4, none⟩ = some (.int .i64 (qs.getD k (0, 0, 0, 0)).1) ∧ w.cell? ⟨b, off + k * 4 + 1, none⟩ = some (.int .i64 (qs.getD k (0, 0, 0, 0)).2.1) ∧ w.cell? ⟨b, off + k * 4 + 2, none⟩ = some (.int .i64 (qs.getD k (0, 0, 0, 0)).2.2.1) ∧ w.cell? ⟨b, off + k * 4 + 3, none⟩ = some (.int .i64 (qs.getD k (0, 0, 0, 0)).2.2.2)
theorem SdAt.below {w w' : World} {b off : Nat} {qs : List Sd} (h : SdAt w b off qs) (hb : b < w.heap.size) (H : Below w.heap.size w w') : SdAt w' b off qs := by
  intro k hk
  obtain ⟨h1, h2, h3, h4⟩ := h k hk
  exact ⟨by rw [H.cell hb]; exact h1, by rw [H.cell hb]; exact h2, by rw [H.cell hb]; exact h3, by rw [H.cell hb]; exact h4⟩
end Go.Proofs.YtdhdfgobefapiaaDoor
