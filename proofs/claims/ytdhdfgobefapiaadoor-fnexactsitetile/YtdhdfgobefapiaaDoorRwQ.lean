/- Rows collected out of an iterator over a list. -/
import Derived.Test.YtdhdfgobefapiaaDoorRwV
import Derived.RangeFuncNested
import Derived.RangeFuncBound
import Derived.RangeFuncCalls
import Derived.RangeFuncLeaves
import Derived.RangeFuncBox
import Derived.Shelf.Abstract
import Derived.Shelf.RegionOpen
import Derived.WalkKit
import Derived.OwnWalkIn
import Derived.TacticsInMore
import Derived.LoopNIn
import Derived.LoopIn
import Derived.Maps.AppendAt
import Derived.Deep.AppendLies
namespace Go.Proofs.YtdhdfgobefapiaaDoor
open Go.RowKit Go.Shelf
set_option linter.unusedSimpArgs false
set_option linter.unusedVariables false
attribute [local go_sem] Oper.semAt_some
/-- Rows' cells at a place. -/
def ElsAt (w : World) (b off : Nat) (xs : List El) : Prop := ∀ j (h : j < xs.length), w.cell? ⟨b, off + j * 5, none⟩ = some (.int .i64 xs[j].1) ∧ w.cell? ⟨b, off + j * 5 + 1, none⟩ = some (.int .i64 xs[j].2.1) ∧ w.cell? ⟨b, off + j * 5 + 2, none⟩ = some (.int .i64 xs[j].2.2.1) ∧ w.cell? ⟨b, off + j * 5 + 3, none⟩ = some (.int .i64 xs[j].2.2.2.1) ∧ w.cell? ⟨b, off + j * 5 + 4, none⟩ = some (.slice xs[j].2.2.2.2.1 xs[j].2.2.2.2.2.1 xs[j].2.2.2.2.2.2)
theorem ElsAt.below {w w' : World} {n b off : Nat} {xs : List El} (h : ElsAt w b off xs) (hb : b < n) (H : Below n w w') : ElsAt w' b off xs := fun j hj => by
  obtain ⟨h0, h1, h2, h3, h4⟩ := h j hj
  exact ⟨(H.cell (p := ⟨b, off + j * 5, none⟩) hb).trans h0, (H.cell (p := ⟨b, off + j * 5 + 1, none⟩) hb).trans h1, (H.cell (p := ⟨b, off + j * 5 + 2, none⟩) hb).trans h2, (H.cell (p := ⟨b, off + j * 5 + 3, none⟩) hb).trans h3, (H.cell (p := ⟨b, off + j * 5 + 4, none⟩) hb).trans h4⟩
end Go.Proofs.YtdhdfgobefapiaaDoor
