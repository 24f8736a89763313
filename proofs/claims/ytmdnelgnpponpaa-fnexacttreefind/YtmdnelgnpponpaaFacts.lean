/- Closed facts of the loaded program that every row of the seat asks. -/
import Derived.Test.YtmdnelgnpponpaaRows
import Derived.JoinedOf
namespace Go.Proofs.Ytmdnelgnpponpaa
set_option maxRecDepth 100000
theorem sh2 : (laidOutB Try.pinned.checked.prog) = true := by kernel_rfl
theorem sh3 : (mapsRowed Try.pinned.checked.prog) = true := by kernel_rfl
theorem sh7 : ((Try.pinned.checked.prog.stops == [])) = true := by kernel_rfl
theorem sh9 : ((Try.pinned.checked.prog.stopKnobs == [])) = true := by kernel_rfl
theorem sh23 : ((Rows.fnExactTreeOkRow.plainKeys == Try.pinned.checked.prog.plainKeys)) = true := by kernel_rfl
theorem sh25 : (Try.pinned.checked.prog.stopsHeard) = true := by kernel_rfl
theorem sh26 : (Try.pinned.checked.prog.mayEnter) = true := by kernel_rfl
theorem sh27 : ((Rows.fnExactTreeOkRow.lifted == Try.pinned.checked.prog.liftsFinal)) = true := by kernel_rfl
theorem sh28 : ((Try.pinned.checked.prog.make == some Rows.fnExactTreeOkRow.make)) = true := by kernel_rfl
end Go.Proofs.Ytmdnelgnpponpaa
