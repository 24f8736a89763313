/- Closed facts of the loaded program that every row of the seat asks. -/
import Derived.Test.YtninciflfolenaaGreatRows
import Derived.JoinedOf
set_option linter.unusedSimpArgs false
set_option linter.unusedVariables false
namespace Go.Proofs.YtninciflfolenaaGreat
set_option maxRecDepth 100000
theorem sh2 : (laidOutB Tryz.pinned.checked.prog) = true := by kernel_rfl
theorem sh3 : (mapsRowed Tryz.pinned.checked.prog) = true := by kernel_rfl
theorem sh7 : ((Tryz.pinned.checked.prog.stops == [])) = true := by kernel_rfl
theorem sh9 : ((Tryz.pinned.checked.prog.stopKnobs == [])) = true := by kernel_rfl
theorem sh23 : ((Rows.fnApplyRow.plainKeys == Tryz.pinned.checked.prog.plainKeys)) = true := by kernel_rfl
theorem sh25 : (Tryz.pinned.checked.prog.stopsHeard) = true := by kernel_rfl
theorem sh26 : (Tryz.pinned.checked.prog.mayEnter) = true := by kernel_rfl
theorem sh27 : ((Rows.fnApplyRow.lifted == Tryz.pinned.checked.prog.liftsFinal)) = true := by kernel_rfl
theorem sh28 : ((Tryz.pinned.checked.prog.make == some Rows.fnApplyRow.make)) = true := by kernel_rfl
end Go.Proofs.YtninciflfolenaaGreat
