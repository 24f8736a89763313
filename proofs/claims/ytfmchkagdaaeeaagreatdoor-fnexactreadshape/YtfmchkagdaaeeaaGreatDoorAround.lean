/- The least box around points: the landed function and the specification's. -/
import Derived.Test.YtfmchkagdaaeeaaGreatDoorRing2
import Derived.Test.YtfmchkagdaaeeaaGreatDoorGeo10
namespace Go.Proofs.YtfmchkagdaaeeaaGreatDoor
open Go.RowKit
set_option linter.unusedSimpArgs false
set_option linter.unusedVariables false
theorem PtsAt.tail {w : World} {b off : Nat} {p : Int × Int} {ps : List (Int × Int)} (h : PtsAt w b off (p :: ps)) : PtsAt w b (off + 2) ps := by
  intro k hk
  obtain ⟨h1, h2⟩ := h (k + 1) (by simp; omega)
  simp only [List.getD_cons_succ] at h1 h2
  rw [show off + (k + 1) * 2 = off + 2 + k * 2 by omega] at h1 h2
  exact ⟨h1, h2⟩
end Go.Proofs.YtfmchkagdaaeeaaGreatDoor
