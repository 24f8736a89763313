/- Texts of stores, joined: RwV, RwQ, RwP. -/
import Derived.Test.YtfjmbbjcghopgaaGreatDoorJ31
import Derived.Deep.RegionHeld3
import Derived.Sort.Grow
import Derived.WalkLawsBesides
import Derived.Shelf.Lay
import Derived.Shelf.LaySoft
import Derived.Test.YtfjmbbjcghopgaaGreatDoorProg
import Derived.RangeFuncNested
import Derived.RangeFuncBound
import Derived.RangeFuncCalls
import Derived.RangeFuncLeaves
import Derived.RangeFuncBox
import Derived.Shelf.Abstract
import Derived.Shelf.RegionOpen
import Derived.WalkKit
import Derived.OwnWalkIn
import Derived.TacticsInMore
import Derived.LoopNIn
import Derived.LoopIn
import Derived.Maps.AppendAt
import Derived.Deep.AppendLies
namespace Go.Proofs.YtfjmbbjcghopgaaGreatDoor
open Go.RowKit Go.Shelf Go.Lib Go.Sort
set_option linter.unusedSimpArgs false
set_option linter.unusedVariables false
/-- A row's cells. -/
abbrev El : Type := Int × Int × Int × Int × Option Addr × Nat × Nat
def ev (x : El) : List Value := [.int .i64 x.1, .int .i64 x.2.1, .int .i64 x.2.2.1, .int .i64 x.2.2.2.1, .slice x.2.2.2.2.1 x.2.2.2.2.2.1 x.2.2.2.2.2.2]
end Go.Proofs.YtfjmbbjcghopgaaGreatDoor
namespace Go.Proofs.YtfjmbbjcghopgaaGreatDoor
open Go.RowKit Go.Shelf
set_option linter.unusedSimpArgs false
set_option linter.unusedVariables false
attribute [local go_sem] Oper.semAt_some
/-- Rows' cells at a place. -/
def ElsAt (w : World) (b off : Nat) (xs : List El) : Prop := ∀ j (h : j < xs.length), w.cell? ⟨b, off + j * 5, none⟩ = some (.int .i64 xs[j].1) ∧ w.cell? ⟨b, off + j * 5 + 1, none⟩ = some (.int .i64 xs[j].2.1) ∧ w.cell? ⟨b, off + j * 5 + 2, none⟩ = some (.int .i64 xs[j].2.2.1) ∧ w.cell? ⟨b, off + j * 5 + 3, none⟩ = some (.int .i64 xs[j].2.2.2.1) ∧ w.cell? ⟨b, off + j * 5 + 4, none⟩ = some (.slice xs[j].2.2.2.2.1 xs[j].2.2.2.2.2.1 xs[j].2.2.2.2.2.2)
theorem ElsAt.below {w w' : World} {n b off : Nat} {xs : List El} (h : ElsAt w b off xs) (hb : b < n) (H : Below n w w') : ElsAt w' b off xs := fun j hj => by
  obtain ⟨h0, h1, h2, h3, h4⟩ := h j hj
  exact ⟨(H.cell (p := ⟨b, off + j * 5, none⟩) hb).trans h0, (H.cell (p := ⟨b, off + j * 5 + 1, none⟩) hb).trans h1, (H.cell (p := ⟨b, off + j * 5 + 2, none⟩) hb).trans h2, (H.cell (p := ⟨b, off + j * 5 + 3, none⟩) hb).trans h3, (H.cell (p := ⟨b, off + j * 5 + 4, none⟩) hb).trans h4⟩
def flat5 (xs : List El) : List Value := xs.flatMap ev
theorem flat5_snoc (xs : List El) (x : El) : flat5 (xs ++ [x]) = flat5 xs ++ ev x := by simp [flat5]
theorem Tryz.infoRw : (Tryz.prog.info? 54).map (fun i => (i.zero, i.size, i.bytes)) = some (some (.agg #[.int .i64 0, .int .i64 0, .int .i64 0, .int .i64 0, .slice none 0 0]), 5, 56) := by kernel_rfl
end Go.Proofs.YtfjmbbjcghopgaaGreatDoor
namespace Go.Proofs.YtfjmbbjcghopgaaGreatDoor
open Go.RowKit Go.Shelf Go.Lib Go.Sort
set_option linter.unusedSimpArgs false
set_option linter.unusedVariables false
theorem flat5_at : ∀ (xs : List El) (j : Nat) (h : j < xs.length), (flat5 xs)[j * 5]? = some (.int .i64 xs[j].1) ∧ (flat5 xs)[j * 5 + 1]? = some (.int .i64 xs[j].2.1) ∧ (flat5 xs)[j * 5 + 2]? = some (.int .i64 xs[j].2.2.1) ∧ (flat5 xs)[j * 5 + 3]? = some (.int .i64 xs[j].2.2.2.1) ∧ (flat5 xs)[j * 5 + 4]? = some (.slice xs[j].2.2.2.2.1 xs[j].2.2.2.2.2.1 xs[j].2.2.2.2.2.2)
  | [], j, h => by simp at h
  | x :: r, 0, h => by simp [flat5, ev]
  | x :: r, j + 1, h => by
    have ih := flat5_at r j (by simpa using h)
    have e : ∀ k, (flat5 (x :: r))[k + 5]? = (flat5 r)[k]? := by
      intro k
      show ((ev x) ++ flat5 r)[k + 5]? = _
      rw [List.getElem?_append_right (by simp [ev])]
      simp [ev]
    have e0 : (j + 1) * 5 = j * 5 + 5 := by omega
    rw [e0, e, show j * 5 + 5 + 1 = j * 5 + 1 + 5 by omega, e, show j * 5 + 5 + 2 = j * 5 + 2 + 5 by omega, e, show j * 5 + 5 + 3 = j * 5 + 3 + 5 by omega, e, show j * 5 + 5 + 4 = j * 5 + 4 + 5 by omega, e]
    exact ih
theorem flat5_len (xs : List El) : (flat5 xs).length = xs.length * 5 := by
  induction xs with
  | nil => rfl
  | cons x r ih =>
    show (ev x ++ flat5 r).length = _
    rw [List.length_append, ih]
    simp [ev]; omega
end Go.Proofs.YtfjmbbjcghopgaaGreatDoor
