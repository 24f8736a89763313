/- Texts of stores, joined: ShBox, Has3. -/
import Derived.Test.YtfjmbbjcghopgaaGreatDoorJ16
import Derived.Test.YtfjmbbjcghopgaaGreatDoorJ11
import Derived.Test.YtfjmbbjcghopgaaGreatDoorJ3
namespace Go.Proofs.YtfjmbbjcghopgaaGreatDoor
open Go.RowKit
set_option linter.unusedSimpArgs false
set_option linter.unusedVariables false
def sv (f : List (Int × Int) → Int) (k : Int) (ps : List (Int × Int)) : Int := if shok k ps = true then f ps else 0
end Go.Proofs.YtfjmbbjcghopgaaGreatDoor
namespace Go.Proofs.YtfjmbbjcghopgaaGreatDoor
open Go.RowKit
set_option linter.unusedSimpArgs false
set_option linter.unusedVariables false
theorem shok_allok {k : Int} {ps : List (Int × Int)} (h : shok k ps = true) : allok ps = true := by
  cases ha : allok ps
  · rw [shok_no ha] at h; cases h
  · rfl
theorem shok_kind {k : Int} {ps : List (Int × Int)} (h : shok k ps = true) : (k = 0 ∧ ps.length = 1) ∨ (k = 1 ∧ 2 ≤ ps.length ∧ ps.length ≤ 60) ∨ (k = 2 ∧ ps.length = 2) ∨ (k = 3 ∧ 3 ≤ ps.length ∧ ps.length ≤ 60) := by
  unfold shok at h
  split at h
  · rename_i e
    simp only [Bool.and_eq_true, decide_eq_true_eq] at h
    exact .inl ⟨e, h.1⟩
  split at h
  · rename_i e
    simp only [lineb, Bool.and_eq_true, decide_eq_true_eq] at h
    exact .inr (.inl ⟨e, h.1.1.1, h.1.1.2⟩)
  split at h
  · rename_i e
    simp only [rectb, Bool.and_eq_true, decide_eq_true_eq] at h
    exact .inr (.inr (.inl ⟨e, h.1.1⟩))
  split at h
  · rename_i e
    simp only [ringOk, Bool.and_eq_true, decide_eq_true_eq] at h
    exact .inr (.inr (.inr ⟨e, h.1.1.1, h.1.1.2⟩))
  · cases h
end Go.Proofs.YtfjmbbjcghopgaaGreatDoor
