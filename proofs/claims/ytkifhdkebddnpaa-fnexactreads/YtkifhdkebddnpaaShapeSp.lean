/- The specification's ShapeOk. -/
import Derived.Test.YtkifhdkebddnpaaShapeOk
namespace Go.Proofs.Ytkifhdkebddnpaa
open Go.RowKit
set_option linter.unusedSimpArgs false
set_option linter.unusedVariables false
theorem shok_no {k : Int} {ps : List (Int × Int)} (h : allok ps = false) : shok k ps = false := by
  unfold shok
  rw [h, Bool.and_false, Bool.and_false, Bool.and_false]
  have hr : ringOk ps = false := by
    unfold ringOk
    rw [decide_eq_false (show ¬ 0 < area2 ps by intro q; rw [area_allok q] at h; cases h), Bool.and_false]; rfl
  rw [hr]
  split <;> (try rfl)
  split <;> (try rfl)
  split <;> (try rfl)
  split <;> rfl
end Go.Proofs.Ytkifhdkebddnpaa
