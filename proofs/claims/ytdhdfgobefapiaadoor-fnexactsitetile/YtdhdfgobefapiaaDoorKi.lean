/- Lists of counts as a law is given them. -/
import Derived.Test.YtdhdfgobefapiaaDoorKh
import Derived.DataShut
namespace Go.Proofs.YtdhdfgobefapiaaDoor
open Go.RowKit
set_option linter.unusedSimpArgs false
set_option linter.unusedVariables false
/-- A list of counts that came in. -/
def CtsIn (w : World) (a : Option Addr) (cap : Nat) (ps : List (Int × Int)) : Prop := PtsIn w a cap ps ∧ KsIn ps
theorem ctsIn_nil (w : World) (a : Option Addr) : CtsIn w a 0 [] := ⟨ptsIn_nil w a, fun i h => by simp at h⟩
theorem ctsIn_of {W : World} {a : Addr} {len cap : Nat} (hl : len ≤ cap) (hm : cap ≤ maxLen)
    (hall : ∀ j, j < len → ∃ z0 z1, W.cell? (a.add (j * 2)) = some (.int .i64 z0) ∧ W.cell? (a.add (j * 2 + 1)) = some (.int .i64 z1) ∧ (Lit.int .i64 z0).wf = true ∧ (Lit.int .i64 z1).wf = true) :
    ∃ ps : List (Int × Int), len = ps.length ∧ CtsIn W (some a) cap ps := by
  obtain ⟨ps, hp, hw⟩ := ptsIn_of hl hm hall
  refine ⟨ps, hp, hw, fun i hi => ?_⟩
  obtain ⟨z0, z1, h0, _, y0, _⟩ := hall i (by omega)
  rcases hw.1 with h | ⟨b, off, ha, _, hat⟩
  · rw [h] at hi; simp at hi
  injection ha with ha
  subst ha
  rw [Addr.add_mid] at h0
  have hc := (hat i hi).1
  rw [h0] at hc
  injection hc with hc
  injection hc with _ hc
  rw [← hc]
  have := (Lit.wf_int_iff .i64 z0).1 y0
  exact this
end Go.Proofs.YtdhdfgobefapiaaDoor
